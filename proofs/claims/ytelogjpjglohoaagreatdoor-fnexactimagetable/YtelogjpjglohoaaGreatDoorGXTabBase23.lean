/- An instruction's word laid bit by bit: plain. -/
import Derived.Test.YtelogjpjglohoaaGreatDoorGXTabBase21
import Derived.Test.YtelogjpjglohoaaGreatDoorGXTabBase22
namespace Go.Proofs.YtelogjpjglohoaaGreatDoor
set_option linter.unusedVariables false

theorem mod_step (im : Int) (k : Nat) (A B : Int) (hA : A = 2 ^ k) (hB : B = 2 ^ (k + 1)) : im % B = im % A + bitT im k * A := by
  subst hA hB
  unfold bitT
  have h1 := Int.emod_add_mul_ediv im (2 ^ k)
  have h2 := Int.emod_add_mul_ediv (im / 2 ^ k) 2
  have h3 := Int.emod_add_mul_ediv im (2 ^ (k + 1))
  have h4 : im / 2 ^ (k + 1) = im / 2 ^ k / 2 := by rw [Int.pow_succ, dd _ _ (Int.le_of_lt (pow_pos k))]
  rw [h4, Int.pow_succ] at h3
  have h5 : 2 ^ k * 2 * (im / 2 ^ k / 2) = (im / 2 ^ k - im / 2 ^ k % 2) * 2 ^ k := by
    rw [show im / 2 ^ k - im / 2 ^ k % 2 = 2 * (im / 2 ^ k / 2) by omega]
    simp only [Int.mul_comm, Int.mul_left_comm]
  have h6 : 2 ^ k * (im / 2 ^ k) = im / 2 ^ k * 2 ^ k := Int.mul_comm _ _
  rw [Int.sub_mul] at h5
  rw [Int.pow_succ]
  omega
theorem stepJ1 (im base : Int) (b0 : 0 ≤ base) (b1 : base < 4096) : 0 ≤ layF 2 (im % 2) ∧ base + layF 2 (im % 2) < 4294967296 ∧ (base + layF 2 (im % 2)) / 2097152 % 2 = 0 ∧
    layF 2 (im % 4) = layF 2 (im % 2) + bitT im 1 % 2 * 2097152 := by
  have e := mod_step im 1 2 4 (by decide) (by decide)
  have hb := bitT_bd im 1
  have hx : 0 ≤ im % 2 ∧ im % 2 < 2 := by omega
  rw [e]
  generalize im % 2 = x at *
  generalize bitT im 1 = b at *
  have l1 : layF 2 x = x / 4096 % 256 * 4096 + x / 2048 % 2 * 1048576 + x / 2 % 1024 * 2097152 + x / 1048576 % 2 * 2147483648 := rfl
  have l2 : layF 2 (x + b * 2) = (x + b * 2) / 4096 % 256 * 4096 + (x + b * 2) / 2048 % 2 * 1048576 + (x + b * 2) / 2 % 1024 * 2097152 + (x + b * 2) / 1048576 % 2 * 2147483648 := rfl
  rw [l1, l2]
  obtain ⟨x0, x1⟩ := hx
  rcases hb with rfl | rfl
  · have a0 : (x + 0 * 2) / 4096 % 256 = 0 := by omega
    have c0 : x / 4096 % 256 = 0 := by omega
    rw [a0, c0]
    clear a0 c0
    have a1 : (x + 0 * 2) / 2048 % 2 = 0 := by omega
    have c1 : x / 2048 % 2 = 0 := by omega
    rw [a1, c1]
    clear a1 c1
    have a2 : (x + 0 * 2) / 2 % 1024 = 0 := by omega
    have c2 : x / 2 % 1024 = 0 := by omega
    rw [a2, c2]
    clear a2 c2
    have a3 : (x + 0 * 2) / 1048576 % 2 = 0 := by omega
    have c3 : x / 1048576 % 2 = 0 := by omega
    rw [a3, c3]
    clear a3 c3
    clear x0 x1
    exact ⟨by omega, by omega, by omega, by omega⟩
  · have a0 : (x + 1 * 2) / 4096 % 256 = 0 := by omega
    have c0 : x / 4096 % 256 = 0 := by omega
    rw [a0, c0]
    clear a0 c0
    have a1 : (x + 1 * 2) / 2048 % 2 = 0 := by omega
    have c1 : x / 2048 % 2 = 0 := by omega
    rw [a1, c1]
    clear a1 c1
    have a2 : (x + 1 * 2) / 2 % 1024 = 1 := by omega
    have c2 : x / 2 % 1024 = 0 := by omega
    rw [a2, c2]
    clear a2 c2
    have a3 : (x + 1 * 2) / 1048576 % 2 = 0 := by omega
    have c3 : x / 1048576 % 2 = 0 := by omega
    rw [a3, c3]
    clear a3 c3
    clear x0 x1
    exact ⟨by omega, by omega, by omega, by omega⟩
theorem stepJ2 (im base : Int) (b0 : 0 ≤ base) (b1 : base < 4096) : 0 ≤ layF 2 (im % 4) ∧ base + layF 2 (im % 4) < 4294967296 ∧ (base + layF 2 (im % 4)) / 4194304 % 2 = 0 ∧
    layF 2 (im % 8) = layF 2 (im % 4) + bitT im 2 % 2 * 4194304 := by
  have e := mod_step im 2 4 8 (by decide) (by decide)
  have hb := bitT_bd im 2
  have hx : 0 ≤ im % 4 ∧ im % 4 < 4 := by omega
  rw [e]
  generalize im % 4 = x at *
  generalize bitT im 2 = b at *
  have l1 : layF 2 x = x / 4096 % 256 * 4096 + x / 2048 % 2 * 1048576 + x / 2 % 1024 * 2097152 + x / 1048576 % 2 * 2147483648 := rfl
  have l2 : layF 2 (x + b * 4) = (x + b * 4) / 4096 % 256 * 4096 + (x + b * 4) / 2048 % 2 * 1048576 + (x + b * 4) / 2 % 1024 * 2097152 + (x + b * 4) / 1048576 % 2 * 2147483648 := rfl
  rw [l1, l2]
  obtain ⟨x0, x1⟩ := hx
  rcases hb with rfl | rfl
  · have a0 : (x + 0 * 4) / 4096 % 256 = 0 := by omega
    have c0 : x / 4096 % 256 = 0 := by omega
    rw [a0, c0]
    clear a0 c0
    have a1 : (x + 0 * 4) / 2048 % 2 = 0 := by omega
    have c1 : x / 2048 % 2 = 0 := by omega
    rw [a1, c1]
    clear a1 c1
    have a2 : (x + 0 * 4) / 2 % 1024 = x / 2 % 1024 + 0 := by omega
    have c2 : 0 ≤ x / 2 % 1024 ∧ x / 2 % 1024 < 2 := by omega
    rw [a2]
    clear a2
    generalize x / 2 % 1024 = y2 at *
    have a3 : (x + 0 * 4) / 1048576 % 2 = 0 := by omega
    have c3 : x / 1048576 % 2 = 0 := by omega
    rw [a3, c3]
    clear a3 c3
    clear x0 x1
    exact ⟨by omega, by omega, by omega, by omega⟩
  · have a0 : (x + 1 * 4) / 4096 % 256 = 0 := by omega
    have c0 : x / 4096 % 256 = 0 := by omega
    rw [a0, c0]
    clear a0 c0
    have a1 : (x + 1 * 4) / 2048 % 2 = 0 := by omega
    have c1 : x / 2048 % 2 = 0 := by omega
    rw [a1, c1]
    clear a1 c1
    have a2 : (x + 1 * 4) / 2 % 1024 = x / 2 % 1024 + 2 := by omega
    have c2 : 0 ≤ x / 2 % 1024 ∧ x / 2 % 1024 < 2 := by omega
    rw [a2]
    clear a2
    generalize x / 2 % 1024 = y2 at *
    have a3 : (x + 1 * 4) / 1048576 % 2 = 0 := by omega
    have c3 : x / 1048576 % 2 = 0 := by omega
    rw [a3, c3]
    clear a3 c3
    clear x0 x1
    exact ⟨by omega, by omega, by omega, by omega⟩
theorem stepJ3 (im base : Int) (b0 : 0 ≤ base) (b1 : base < 4096) : 0 ≤ layF 2 (im % 8) ∧ base + layF 2 (im % 8) < 4294967296 ∧ (base + layF 2 (im % 8)) / 8388608 % 2 = 0 ∧
    layF 2 (im % 16) = layF 2 (im % 8) + bitT im 3 % 2 * 8388608 := by
  have e := mod_step im 3 8 16 (by decide) (by decide)
  have hb := bitT_bd im 3
  have hx : 0 ≤ im % 8 ∧ im % 8 < 8 := by omega
  rw [e]
  generalize im % 8 = x at *
  generalize bitT im 3 = b at *
  have l1 : layF 2 x = x / 4096 % 256 * 4096 + x / 2048 % 2 * 1048576 + x / 2 % 1024 * 2097152 + x / 1048576 % 2 * 2147483648 := rfl
  have l2 : layF 2 (x + b * 8) = (x + b * 8) / 4096 % 256 * 4096 + (x + b * 8) / 2048 % 2 * 1048576 + (x + b * 8) / 2 % 1024 * 2097152 + (x + b * 8) / 1048576 % 2 * 2147483648 := rfl
  rw [l1, l2]
  obtain ⟨x0, x1⟩ := hx
  rcases hb with rfl | rfl
  · have a0 : (x + 0 * 8) / 4096 % 256 = 0 := by omega
    have c0 : x / 4096 % 256 = 0 := by omega
    rw [a0, c0]
    clear a0 c0
    have a1 : (x + 0 * 8) / 2048 % 2 = 0 := by omega
    have c1 : x / 2048 % 2 = 0 := by omega
    rw [a1, c1]
    clear a1 c1
    have a2 : (x + 0 * 8) / 2 % 1024 = x / 2 % 1024 + 0 := by omega
    have c2 : 0 ≤ x / 2 % 1024 ∧ x / 2 % 1024 < 4 := by omega
    rw [a2]
    clear a2
    generalize x / 2 % 1024 = y2 at *
    have a3 : (x + 0 * 8) / 1048576 % 2 = 0 := by omega
    have c3 : x / 1048576 % 2 = 0 := by omega
    rw [a3, c3]
    clear a3 c3
    clear x0 x1
    exact ⟨by omega, by omega, by omega, by omega⟩
  · have a0 : (x + 1 * 8) / 4096 % 256 = 0 := by omega
    have c0 : x / 4096 % 256 = 0 := by omega
    rw [a0, c0]
    clear a0 c0
    have a1 : (x + 1 * 8) / 2048 % 2 = 0 := by omega
    have c1 : x / 2048 % 2 = 0 := by omega
    rw [a1, c1]
    clear a1 c1
    have a2 : (x + 1 * 8) / 2 % 1024 = x / 2 % 1024 + 4 := by omega
    have c2 : 0 ≤ x / 2 % 1024 ∧ x / 2 % 1024 < 4 := by omega
    rw [a2]
    clear a2
    generalize x / 2 % 1024 = y2 at *
    have a3 : (x + 1 * 8) / 1048576 % 2 = 0 := by omega
    have c3 : x / 1048576 % 2 = 0 := by omega
    rw [a3, c3]
    clear a3 c3
    clear x0 x1
    exact ⟨by omega, by omega, by omega, by omega⟩
theorem stepJ4 (im base : Int) (b0 : 0 ≤ base) (b1 : base < 4096) : 0 ≤ layF 2 (im % 16) ∧ base + layF 2 (im % 16) < 4294967296 ∧ (base + layF 2 (im % 16)) / 16777216 % 2 = 0 ∧
    layF 2 (im % 32) = layF 2 (im % 16) + bitT im 4 % 2 * 16777216 := by
  have e := mod_step im 4 16 32 (by decide) (by decide)
  have hb := bitT_bd im 4
  have hx : 0 ≤ im % 16 ∧ im % 16 < 16 := by omega
  rw [e]
  generalize im % 16 = x at *
  generalize bitT im 4 = b at *
  have l1 : layF 2 x = x / 4096 % 256 * 4096 + x / 2048 % 2 * 1048576 + x / 2 % 1024 * 2097152 + x / 1048576 % 2 * 2147483648 := rfl
  have l2 : layF 2 (x + b * 16) = (x + b * 16) / 4096 % 256 * 4096 + (x + b * 16) / 2048 % 2 * 1048576 + (x + b * 16) / 2 % 1024 * 2097152 + (x + b * 16) / 1048576 % 2 * 2147483648 := rfl
  rw [l1, l2]
  obtain ⟨x0, x1⟩ := hx
  rcases hb with rfl | rfl
  · have a0 : (x + 0 * 16) / 4096 % 256 = 0 := by omega
    have c0 : x / 4096 % 256 = 0 := by omega
    rw [a0, c0]
    clear a0 c0
    have a1 : (x + 0 * 16) / 2048 % 2 = 0 := by omega
    have c1 : x / 2048 % 2 = 0 := by omega
    rw [a1, c1]
    clear a1 c1
    have a2 : (x + 0 * 16) / 2 % 1024 = x / 2 % 1024 + 0 := by omega
    have c2 : 0 ≤ x / 2 % 1024 ∧ x / 2 % 1024 < 8 := by omega
    rw [a2]
    clear a2
    generalize x / 2 % 1024 = y2 at *
    have a3 : (x + 0 * 16) / 1048576 % 2 = 0 := by omega
    have c3 : x / 1048576 % 2 = 0 := by omega
    rw [a3, c3]
    clear a3 c3
    clear x0 x1
    exact ⟨by omega, by omega, by omega, by omega⟩
  · have a0 : (x + 1 * 16) / 4096 % 256 = 0 := by omega
    have c0 : x / 4096 % 256 = 0 := by omega
    rw [a0, c0]
    clear a0 c0
    have a1 : (x + 1 * 16) / 2048 % 2 = 0 := by omega
    have c1 : x / 2048 % 2 = 0 := by omega
    rw [a1, c1]
    clear a1 c1
    have a2 : (x + 1 * 16) / 2 % 1024 = x / 2 % 1024 + 8 := by omega
    have c2 : 0 ≤ x / 2 % 1024 ∧ x / 2 % 1024 < 8 := by omega
    rw [a2]
    clear a2
    generalize x / 2 % 1024 = y2 at *
    have a3 : (x + 1 * 16) / 1048576 % 2 = 0 := by omega
    have c3 : x / 1048576 % 2 = 0 := by omega
    rw [a3, c3]
    clear a3 c3
    clear x0 x1
    exact ⟨by omega, by omega, by omega, by omega⟩
theorem stepJ5 (im base : Int) (b0 : 0 ≤ base) (b1 : base < 4096) : 0 ≤ layF 2 (im % 32) ∧ base + layF 2 (im % 32) < 4294967296 ∧ (base + layF 2 (im % 32)) / 33554432 % 2 = 0 ∧
    layF 2 (im % 64) = layF 2 (im % 32) + bitT im 5 % 2 * 33554432 := by
  have e := mod_step im 5 32 64 (by decide) (by decide)
  have hb := bitT_bd im 5
  have hx : 0 ≤ im % 32 ∧ im % 32 < 32 := by omega
  rw [e]
  generalize im % 32 = x at *
  generalize bitT im 5 = b at *
  have l1 : layF 2 x = x / 4096 % 256 * 4096 + x / 2048 % 2 * 1048576 + x / 2 % 1024 * 2097152 + x / 1048576 % 2 * 2147483648 := rfl
  have l2 : layF 2 (x + b * 32) = (x + b * 32) / 4096 % 256 * 4096 + (x + b * 32) / 2048 % 2 * 1048576 + (x + b * 32) / 2 % 1024 * 2097152 + (x + b * 32) / 1048576 % 2 * 2147483648 := rfl
  rw [l1, l2]
  obtain ⟨x0, x1⟩ := hx
  rcases hb with rfl | rfl
  · have a0 : (x + 0 * 32) / 4096 % 256 = 0 := by omega
    have c0 : x / 4096 % 256 = 0 := by omega
    rw [a0, c0]
    clear a0 c0
    have a1 : (x + 0 * 32) / 2048 % 2 = 0 := by omega
    have c1 : x / 2048 % 2 = 0 := by omega
    rw [a1, c1]
    clear a1 c1
    have a2 : (x + 0 * 32) / 2 % 1024 = x / 2 % 1024 + 0 := by omega
    have c2 : 0 ≤ x / 2 % 1024 ∧ x / 2 % 1024 < 16 := by omega
    rw [a2]
    clear a2
    generalize x / 2 % 1024 = y2 at *
    have a3 : (x + 0 * 32) / 1048576 % 2 = 0 := by omega
    have c3 : x / 1048576 % 2 = 0 := by omega
    rw [a3, c3]
    clear a3 c3
    clear x0 x1
    exact ⟨by omega, by omega, by omega, by omega⟩
  · have a0 : (x + 1 * 32) / 4096 % 256 = 0 := by omega
    have c0 : x / 4096 % 256 = 0 := by omega
    rw [a0, c0]
    clear a0 c0
    have a1 : (x + 1 * 32) / 2048 % 2 = 0 := by omega
    have c1 : x / 2048 % 2 = 0 := by omega
    rw [a1, c1]
    clear a1 c1
    have a2 : (x + 1 * 32) / 2 % 1024 = x / 2 % 1024 + 16 := by omega
    have c2 : 0 ≤ x / 2 % 1024 ∧ x / 2 % 1024 < 16 := by omega
    rw [a2]
    clear a2
    generalize x / 2 % 1024 = y2 at *
    have a3 : (x + 1 * 32) / 1048576 % 2 = 0 := by omega
    have c3 : x / 1048576 % 2 = 0 := by omega
    rw [a3, c3]
    clear a3 c3
    clear x0 x1
    exact ⟨by omega, by omega, by omega, by omega⟩
theorem stepJ6 (im base : Int) (b0 : 0 ≤ base) (b1 : base < 4096) : 0 ≤ layF 2 (im % 64) ∧ base + layF 2 (im % 64) < 4294967296 ∧ (base + layF 2 (im % 64)) / 67108864 % 2 = 0 ∧
    layF 2 (im % 128) = layF 2 (im % 64) + bitT im 6 % 2 * 67108864 := by
  have e := mod_step im 6 64 128 (by decide) (by decide)
  have hb := bitT_bd im 6
  have hx : 0 ≤ im % 64 ∧ im % 64 < 64 := by omega
  rw [e]
  generalize im % 64 = x at *
  generalize bitT im 6 = b at *
  have l1 : layF 2 x = x / 4096 % 256 * 4096 + x / 2048 % 2 * 1048576 + x / 2 % 1024 * 2097152 + x / 1048576 % 2 * 2147483648 := rfl
  have l2 : layF 2 (x + b * 64) = (x + b * 64) / 4096 % 256 * 4096 + (x + b * 64) / 2048 % 2 * 1048576 + (x + b * 64) / 2 % 1024 * 2097152 + (x + b * 64) / 1048576 % 2 * 2147483648 := rfl
  rw [l1, l2]
  obtain ⟨x0, x1⟩ := hx
  rcases hb with rfl | rfl
  · have a0 : (x + 0 * 64) / 4096 % 256 = 0 := by omega
    have c0 : x / 4096 % 256 = 0 := by omega
    rw [a0, c0]
    clear a0 c0
    have a1 : (x + 0 * 64) / 2048 % 2 = 0 := by omega
    have c1 : x / 2048 % 2 = 0 := by omega
    rw [a1, c1]
    clear a1 c1
    have a2 : (x + 0 * 64) / 2 % 1024 = x / 2 % 1024 + 0 := by omega
    have c2 : 0 ≤ x / 2 % 1024 ∧ x / 2 % 1024 < 32 := by omega
    rw [a2]
    clear a2
    generalize x / 2 % 1024 = y2 at *
    have a3 : (x + 0 * 64) / 1048576 % 2 = 0 := by omega
    have c3 : x / 1048576 % 2 = 0 := by omega
    rw [a3, c3]
    clear a3 c3
    clear x0 x1
    exact ⟨by omega, by omega, by omega, by omega⟩
  · have a0 : (x + 1 * 64) / 4096 % 256 = 0 := by omega
    have c0 : x / 4096 % 256 = 0 := by omega
    rw [a0, c0]
    clear a0 c0
    have a1 : (x + 1 * 64) / 2048 % 2 = 0 := by omega
    have c1 : x / 2048 % 2 = 0 := by omega
    rw [a1, c1]
    clear a1 c1
    have a2 : (x + 1 * 64) / 2 % 1024 = x / 2 % 1024 + 32 := by omega
    have c2 : 0 ≤ x / 2 % 1024 ∧ x / 2 % 1024 < 32 := by omega
    rw [a2]
    clear a2
    generalize x / 2 % 1024 = y2 at *
    have a3 : (x + 1 * 64) / 1048576 % 2 = 0 := by omega
    have c3 : x / 1048576 % 2 = 0 := by omega
    rw [a3, c3]
    clear a3 c3
    clear x0 x1
    exact ⟨by omega, by omega, by omega, by omega⟩
theorem stepJ7 (im base : Int) (b0 : 0 ≤ base) (b1 : base < 4096) : 0 ≤ layF 2 (im % 128) ∧ base + layF 2 (im % 128) < 4294967296 ∧ (base + layF 2 (im % 128)) / 134217728 % 2 = 0 ∧
    layF 2 (im % 256) = layF 2 (im % 128) + bitT im 7 % 2 * 134217728 := by
  have e := mod_step im 7 128 256 (by decide) (by decide)
  have hb := bitT_bd im 7
  have hx : 0 ≤ im % 128 ∧ im % 128 < 128 := by omega
  rw [e]
  generalize im % 128 = x at *
  generalize bitT im 7 = b at *
  have l1 : layF 2 x = x / 4096 % 256 * 4096 + x / 2048 % 2 * 1048576 + x / 2 % 1024 * 2097152 + x / 1048576 % 2 * 2147483648 := rfl
  have l2 : layF 2 (x + b * 128) = (x + b * 128) / 4096 % 256 * 4096 + (x + b * 128) / 2048 % 2 * 1048576 + (x + b * 128) / 2 % 1024 * 2097152 + (x + b * 128) / 1048576 % 2 * 2147483648 := rfl
  rw [l1, l2]
  obtain ⟨x0, x1⟩ := hx
  rcases hb with rfl | rfl
  · have a0 : (x + 0 * 128) / 4096 % 256 = 0 := by omega
    have c0 : x / 4096 % 256 = 0 := by omega
    rw [a0, c0]
    clear a0 c0
    have a1 : (x + 0 * 128) / 2048 % 2 = 0 := by omega
    have c1 : x / 2048 % 2 = 0 := by omega
    rw [a1, c1]
    clear a1 c1
    have a2 : (x + 0 * 128) / 2 % 1024 = x / 2 % 1024 + 0 := by omega
    have c2 : 0 ≤ x / 2 % 1024 ∧ x / 2 % 1024 < 64 := by omega
    rw [a2]
    clear a2
    generalize x / 2 % 1024 = y2 at *
    have a3 : (x + 0 * 128) / 1048576 % 2 = 0 := by omega
    have c3 : x / 1048576 % 2 = 0 := by omega
    rw [a3, c3]
    clear a3 c3
    clear x0 x1
    exact ⟨by omega, by omega, by omega, by omega⟩
  · have a0 : (x + 1 * 128) / 4096 % 256 = 0 := by omega
    have c0 : x / 4096 % 256 = 0 := by omega
    rw [a0, c0]
    clear a0 c0
    have a1 : (x + 1 * 128) / 2048 % 2 = 0 := by omega
    have c1 : x / 2048 % 2 = 0 := by omega
    rw [a1, c1]
    clear a1 c1
    have a2 : (x + 1 * 128) / 2 % 1024 = x / 2 % 1024 + 64 := by omega
    have c2 : 0 ≤ x / 2 % 1024 ∧ x / 2 % 1024 < 64 := by omega
    rw [a2]
    clear a2
    generalize x / 2 % 1024 = y2 at *
    have a3 : (x + 1 * 128) / 1048576 % 2 = 0 := by omega
    have c3 : x / 1048576 % 2 = 0 := by omega
    rw [a3, c3]
    clear a3 c3
    clear x0 x1
    exact ⟨by omega, by omega, by omega, by omega⟩
theorem stepJ8 (im base : Int) (b0 : 0 ≤ base) (b1 : base < 4096) : 0 ≤ layF 2 (im % 256) ∧ base + layF 2 (im % 256) < 4294967296 ∧ (base + layF 2 (im % 256)) / 268435456 % 2 = 0 ∧
    layF 2 (im % 512) = layF 2 (im % 256) + bitT im 8 % 2 * 268435456 := by
  have e := mod_step im 8 256 512 (by decide) (by decide)
  have hb := bitT_bd im 8
  have hx : 0 ≤ im % 256 ∧ im % 256 < 256 := by omega
  rw [e]
  generalize im % 256 = x at *
  generalize bitT im 8 = b at *
  have l1 : layF 2 x = x / 4096 % 256 * 4096 + x / 2048 % 2 * 1048576 + x / 2 % 1024 * 2097152 + x / 1048576 % 2 * 2147483648 := rfl
  have l2 : layF 2 (x + b * 256) = (x + b * 256) / 4096 % 256 * 4096 + (x + b * 256) / 2048 % 2 * 1048576 + (x + b * 256) / 2 % 1024 * 2097152 + (x + b * 256) / 1048576 % 2 * 2147483648 := rfl
  rw [l1, l2]
  obtain ⟨x0, x1⟩ := hx
  rcases hb with rfl | rfl
  · have a0 : (x + 0 * 256) / 4096 % 256 = 0 := by omega
    have c0 : x / 4096 % 256 = 0 := by omega
    rw [a0, c0]
    clear a0 c0
    have a1 : (x + 0 * 256) / 2048 % 2 = 0 := by omega
    have c1 : x / 2048 % 2 = 0 := by omega
    rw [a1, c1]
    clear a1 c1
    have a2 : (x + 0 * 256) / 2 % 1024 = x / 2 % 1024 + 0 := by omega
    have c2 : 0 ≤ x / 2 % 1024 ∧ x / 2 % 1024 < 128 := by omega
    rw [a2]
    clear a2
    generalize x / 2 % 1024 = y2 at *
    have a3 : (x + 0 * 256) / 1048576 % 2 = 0 := by omega
    have c3 : x / 1048576 % 2 = 0 := by omega
    rw [a3, c3]
    clear a3 c3
    clear x0 x1
    exact ⟨by omega, by omega, by omega, by omega⟩
  · have a0 : (x + 1 * 256) / 4096 % 256 = 0 := by omega
    have c0 : x / 4096 % 256 = 0 := by omega
    rw [a0, c0]
    clear a0 c0
    have a1 : (x + 1 * 256) / 2048 % 2 = 0 := by omega
    have c1 : x / 2048 % 2 = 0 := by omega
    rw [a1, c1]
    clear a1 c1
    have a2 : (x + 1 * 256) / 2 % 1024 = x / 2 % 1024 + 128 := by omega
    have c2 : 0 ≤ x / 2 % 1024 ∧ x / 2 % 1024 < 128 := by omega
    rw [a2]
    clear a2
    generalize x / 2 % 1024 = y2 at *
    have a3 : (x + 1 * 256) / 1048576 % 2 = 0 := by omega
    have c3 : x / 1048576 % 2 = 0 := by omega
    rw [a3, c3]
    clear a3 c3
    clear x0 x1
    exact ⟨by omega, by omega, by omega, by omega⟩
theorem stepJ9 (im base : Int) (b0 : 0 ≤ base) (b1 : base < 4096) : 0 ≤ layF 2 (im % 512) ∧ base + layF 2 (im % 512) < 4294967296 ∧ (base + layF 2 (im % 512)) / 536870912 % 2 = 0 ∧
    layF 2 (im % 1024) = layF 2 (im % 512) + bitT im 9 % 2 * 536870912 := by
  have e := mod_step im 9 512 1024 (by decide) (by decide)
  have hb := bitT_bd im 9
  have hx : 0 ≤ im % 512 ∧ im % 512 < 512 := by omega
  rw [e]
  generalize im % 512 = x at *
  generalize bitT im 9 = b at *
  have l1 : layF 2 x = x / 4096 % 256 * 4096 + x / 2048 % 2 * 1048576 + x / 2 % 1024 * 2097152 + x / 1048576 % 2 * 2147483648 := rfl
  have l2 : layF 2 (x + b * 512) = (x + b * 512) / 4096 % 256 * 4096 + (x + b * 512) / 2048 % 2 * 1048576 + (x + b * 512) / 2 % 1024 * 2097152 + (x + b * 512) / 1048576 % 2 * 2147483648 := rfl
  rw [l1, l2]
  obtain ⟨x0, x1⟩ := hx
  rcases hb with rfl | rfl
  · have a0 : (x + 0 * 512) / 4096 % 256 = 0 := by omega
    have c0 : x / 4096 % 256 = 0 := by omega
    rw [a0, c0]
    clear a0 c0
    have a1 : (x + 0 * 512) / 2048 % 2 = 0 := by omega
    have c1 : x / 2048 % 2 = 0 := by omega
    rw [a1, c1]
    clear a1 c1
    have a2 : (x + 0 * 512) / 2 % 1024 = x / 2 % 1024 + 0 := by omega
    have c2 : 0 ≤ x / 2 % 1024 ∧ x / 2 % 1024 < 256 := by omega
    rw [a2]
    clear a2
    generalize x / 2 % 1024 = y2 at *
    have a3 : (x + 0 * 512) / 1048576 % 2 = 0 := by omega
    have c3 : x / 1048576 % 2 = 0 := by omega
    rw [a3, c3]
    clear a3 c3
    clear x0 x1
    exact ⟨by omega, by omega, by omega, by omega⟩
  · have a0 : (x + 1 * 512) / 4096 % 256 = 0 := by omega
    have c0 : x / 4096 % 256 = 0 := by omega
    rw [a0, c0]
    clear a0 c0
    have a1 : (x + 1 * 512) / 2048 % 2 = 0 := by omega
    have c1 : x / 2048 % 2 = 0 := by omega
    rw [a1, c1]
    clear a1 c1
    have a2 : (x + 1 * 512) / 2 % 1024 = x / 2 % 1024 + 256 := by omega
    have c2 : 0 ≤ x / 2 % 1024 ∧ x / 2 % 1024 < 256 := by omega
    rw [a2]
    clear a2
    generalize x / 2 % 1024 = y2 at *
    have a3 : (x + 1 * 512) / 1048576 % 2 = 0 := by omega
    have c3 : x / 1048576 % 2 = 0 := by omega
    rw [a3, c3]
    clear a3 c3
    clear x0 x1
    exact ⟨by omega, by omega, by omega, by omega⟩
theorem stepJ10 (im base : Int) (b0 : 0 ≤ base) (b1 : base < 4096) : 0 ≤ layF 2 (im % 1024) ∧ base + layF 2 (im % 1024) < 4294967296 ∧ (base + layF 2 (im % 1024)) / 1073741824 % 2 = 0 ∧
    layF 2 (im % 2048) = layF 2 (im % 1024) + bitT im 10 % 2 * 1073741824 := by
  have e := mod_step im 10 1024 2048 (by decide) (by decide)
  have hb := bitT_bd im 10
  have hx : 0 ≤ im % 1024 ∧ im % 1024 < 1024 := by omega
  rw [e]
  generalize im % 1024 = x at *
  generalize bitT im 10 = b at *
  have l1 : layF 2 x = x / 4096 % 256 * 4096 + x / 2048 % 2 * 1048576 + x / 2 % 1024 * 2097152 + x / 1048576 % 2 * 2147483648 := rfl
  have l2 : layF 2 (x + b * 1024) = (x + b * 1024) / 4096 % 256 * 4096 + (x + b * 1024) / 2048 % 2 * 1048576 + (x + b * 1024) / 2 % 1024 * 2097152 + (x + b * 1024) / 1048576 % 2 * 2147483648 := rfl
  rw [l1, l2]
  obtain ⟨x0, x1⟩ := hx
  rcases hb with rfl | rfl
  · have a0 : (x + 0 * 1024) / 4096 % 256 = 0 := by omega
    have c0 : x / 4096 % 256 = 0 := by omega
    rw [a0, c0]
    clear a0 c0
    have a1 : (x + 0 * 1024) / 2048 % 2 = 0 := by omega
    have c1 : x / 2048 % 2 = 0 := by omega
    rw [a1, c1]
    clear a1 c1
    have a2 : (x + 0 * 1024) / 2 % 1024 = x / 2 % 1024 + 0 := by omega
    have c2 : 0 ≤ x / 2 % 1024 ∧ x / 2 % 1024 < 512 := by omega
    rw [a2]
    clear a2
    generalize x / 2 % 1024 = y2 at *
    have a3 : (x + 0 * 1024) / 1048576 % 2 = 0 := by omega
    have c3 : x / 1048576 % 2 = 0 := by omega
    rw [a3, c3]
    clear a3 c3
    clear x0 x1
    exact ⟨by omega, by omega, by omega, by omega⟩
  · have a0 : (x + 1 * 1024) / 4096 % 256 = 0 := by omega
    have c0 : x / 4096 % 256 = 0 := by omega
    rw [a0, c0]
    clear a0 c0
    have a1 : (x + 1 * 1024) / 2048 % 2 = 0 := by omega
    have c1 : x / 2048 % 2 = 0 := by omega
    rw [a1, c1]
    clear a1 c1
    have a2 : (x + 1 * 1024) / 2 % 1024 = x / 2 % 1024 + 512 := by omega
    have c2 : 0 ≤ x / 2 % 1024 ∧ x / 2 % 1024 < 512 := by omega
    rw [a2]
    clear a2
    generalize x / 2 % 1024 = y2 at *
    have a3 : (x + 1 * 1024) / 1048576 % 2 = 0 := by omega
    have c3 : x / 1048576 % 2 = 0 := by omega
    rw [a3, c3]
    clear a3 c3
    clear x0 x1
    exact ⟨by omega, by omega, by omega, by omega⟩
theorem stepJ11 (im base : Int) (b0 : 0 ≤ base) (b1 : base < 4096) : 0 ≤ layF 2 (im % 2048) ∧ base + layF 2 (im % 2048) < 4294967296 ∧ (base + layF 2 (im % 2048)) / 1048576 % 2 = 0 ∧
    layF 2 (im % 4096) = layF 2 (im % 2048) + bitT im 11 % 2 * 1048576 := by
  have e := mod_step im 11 2048 4096 (by decide) (by decide)
  have hb := bitT_bd im 11
  have hx : 0 ≤ im % 2048 ∧ im % 2048 < 2048 := by omega
  rw [e]
  generalize im % 2048 = x at *
  generalize bitT im 11 = b at *
  have l1 : layF 2 x = x / 4096 % 256 * 4096 + x / 2048 % 2 * 1048576 + x / 2 % 1024 * 2097152 + x / 1048576 % 2 * 2147483648 := rfl
  have l2 : layF 2 (x + b * 2048) = (x + b * 2048) / 4096 % 256 * 4096 + (x + b * 2048) / 2048 % 2 * 1048576 + (x + b * 2048) / 2 % 1024 * 2097152 + (x + b * 2048) / 1048576 % 2 * 2147483648 := rfl
  rw [l1, l2]
  obtain ⟨x0, x1⟩ := hx
  rcases hb with rfl | rfl
  · have a0 : (x + 0 * 2048) / 4096 % 256 = 0 := by omega
    have c0 : x / 4096 % 256 = 0 := by omega
    rw [a0, c0]
    clear a0 c0
    have a1 : (x + 0 * 2048) / 2048 % 2 = 0 := by omega
    have c1 : x / 2048 % 2 = 0 := by omega
    rw [a1, c1]
    clear a1 c1
    have a2 : (x + 0 * 2048) / 2 % 1024 = x / 2 % 1024 := by omega
    have c2 : 0 ≤ x / 2 % 1024 ∧ x / 2 % 1024 < 1024 := by omega
    rw [a2]
    clear a2
    generalize x / 2 % 1024 = y2 at *
    have a3 : (x + 0 * 2048) / 1048576 % 2 = 0 := by omega
    have c3 : x / 1048576 % 2 = 0 := by omega
    rw [a3, c3]
    clear a3 c3
    clear x0 x1
    exact ⟨by omega, by omega, by omega, by omega⟩
  · have a0 : (x + 1 * 2048) / 4096 % 256 = 0 := by omega
    have c0 : x / 4096 % 256 = 0 := by omega
    rw [a0, c0]
    clear a0 c0
    have a1 : (x + 1 * 2048) / 2048 % 2 = 1 := by omega
    have c1 : x / 2048 % 2 = 0 := by omega
    rw [a1, c1]
    clear a1 c1
    have a2 : (x + 1 * 2048) / 2 % 1024 = x / 2 % 1024 := by omega
    have c2 : 0 ≤ x / 2 % 1024 ∧ x / 2 % 1024 < 1024 := by omega
    rw [a2]
    clear a2
    generalize x / 2 % 1024 = y2 at *
    have a3 : (x + 1 * 2048) / 1048576 % 2 = 0 := by omega
    have c3 : x / 1048576 % 2 = 0 := by omega
    rw [a3, c3]
    clear a3 c3
    clear x0 x1
    exact ⟨by omega, by omega, by omega, by omega⟩
theorem stepJ12 (im base : Int) (b0 : 0 ≤ base) (b1 : base < 4096) : 0 ≤ layF 2 (im % 4096) ∧ base + layF 2 (im % 4096) < 4294967296 ∧ (base + layF 2 (im % 4096)) / 4096 % 2 = 0 ∧
    layF 2 (im % 8192) = layF 2 (im % 4096) + bitT im 12 % 2 * 4096 := by
  have e := mod_step im 12 4096 8192 (by decide) (by decide)
  have hb := bitT_bd im 12
  have hx : 0 ≤ im % 4096 ∧ im % 4096 < 4096 := by omega
  rw [e]
  generalize im % 4096 = x at *
  generalize bitT im 12 = b at *
  have l1 : layF 2 x = x / 4096 % 256 * 4096 + x / 2048 % 2 * 1048576 + x / 2 % 1024 * 2097152 + x / 1048576 % 2 * 2147483648 := rfl
  have l2 : layF 2 (x + b * 4096) = (x + b * 4096) / 4096 % 256 * 4096 + (x + b * 4096) / 2048 % 2 * 1048576 + (x + b * 4096) / 2 % 1024 * 2097152 + (x + b * 4096) / 1048576 % 2 * 2147483648 := rfl
  rw [l1, l2]
  obtain ⟨x0, x1⟩ := hx
  rcases hb with rfl | rfl
  · have a0 : (x + 0 * 4096) / 4096 % 256 = 0 := by omega
    have c0 : x / 4096 % 256 = 0 := by omega
    rw [a0, c0]
    clear a0 c0
    have a1 : (x + 0 * 4096) / 2048 % 2 = x / 2048 % 2 := by omega
    have c1 : 0 ≤ x / 2048 % 2 ∧ x / 2048 % 2 < 2 := by omega
    rw [a1]
    clear a1
    generalize x / 2048 % 2 = y1 at *
    have a2 : (x + 0 * 4096) / 2 % 1024 = x / 2 % 1024 := by omega
    have c2 : 0 ≤ x / 2 % 1024 ∧ x / 2 % 1024 < 1024 := by omega
    rw [a2]
    clear a2
    generalize x / 2 % 1024 = y2 at *
    have a3 : (x + 0 * 4096) / 1048576 % 2 = 0 := by omega
    have c3 : x / 1048576 % 2 = 0 := by omega
    rw [a3, c3]
    clear a3 c3
    clear x0 x1
    exact ⟨by omega, by omega, by omega, by omega⟩
  · have a0 : (x + 1 * 4096) / 4096 % 256 = 1 := by omega
    have c0 : x / 4096 % 256 = 0 := by omega
    rw [a0, c0]
    clear a0 c0
    have a1 : (x + 1 * 4096) / 2048 % 2 = x / 2048 % 2 := by omega
    have c1 : 0 ≤ x / 2048 % 2 ∧ x / 2048 % 2 < 2 := by omega
    rw [a1]
    clear a1
    generalize x / 2048 % 2 = y1 at *
    have a2 : (x + 1 * 4096) / 2 % 1024 = x / 2 % 1024 := by omega
    have c2 : 0 ≤ x / 2 % 1024 ∧ x / 2 % 1024 < 1024 := by omega
    rw [a2]
    clear a2
    generalize x / 2 % 1024 = y2 at *
    have a3 : (x + 1 * 4096) / 1048576 % 2 = 0 := by omega
    have c3 : x / 1048576 % 2 = 0 := by omega
    rw [a3, c3]
    clear a3 c3
    clear x0 x1
    exact ⟨by omega, by omega, by omega, by omega⟩
theorem stepJ13 (im base : Int) (b0 : 0 ≤ base) (b1 : base < 4096) : 0 ≤ layF 2 (im % 8192) ∧ base + layF 2 (im % 8192) < 4294967296 ∧ (base + layF 2 (im % 8192)) / 8192 % 2 = 0 ∧
    layF 2 (im % 16384) = layF 2 (im % 8192) + bitT im 13 % 2 * 8192 := by
  have e := mod_step im 13 8192 16384 (by decide) (by decide)
  have hb := bitT_bd im 13
  have hx : 0 ≤ im % 8192 ∧ im % 8192 < 8192 := by omega
  rw [e]
  generalize im % 8192 = x at *
  generalize bitT im 13 = b at *
  have l1 : layF 2 x = x / 4096 % 256 * 4096 + x / 2048 % 2 * 1048576 + x / 2 % 1024 * 2097152 + x / 1048576 % 2 * 2147483648 := rfl
  have l2 : layF 2 (x + b * 8192) = (x + b * 8192) / 4096 % 256 * 4096 + (x + b * 8192) / 2048 % 2 * 1048576 + (x + b * 8192) / 2 % 1024 * 2097152 + (x + b * 8192) / 1048576 % 2 * 2147483648 := rfl
  rw [l1, l2]
  obtain ⟨x0, x1⟩ := hx
  rcases hb with rfl | rfl
  · have a0 : (x + 0 * 8192) / 4096 % 256 = x / 4096 % 256 + 0 := by omega
    have c0 : 0 ≤ x / 4096 % 256 ∧ x / 4096 % 256 < 2 := by omega
    rw [a0]
    clear a0
    generalize x / 4096 % 256 = y0 at *
    have a1 : (x + 0 * 8192) / 2048 % 2 = x / 2048 % 2 := by omega
    have c1 : 0 ≤ x / 2048 % 2 ∧ x / 2048 % 2 < 2 := by omega
    rw [a1]
    clear a1
    generalize x / 2048 % 2 = y1 at *
    have a2 : (x + 0 * 8192) / 2 % 1024 = x / 2 % 1024 := by omega
    have c2 : 0 ≤ x / 2 % 1024 ∧ x / 2 % 1024 < 1024 := by omega
    rw [a2]
    clear a2
    generalize x / 2 % 1024 = y2 at *
    have a3 : (x + 0 * 8192) / 1048576 % 2 = 0 := by omega
    have c3 : x / 1048576 % 2 = 0 := by omega
    rw [a3, c3]
    clear a3 c3
    clear x0 x1
    exact ⟨by omega, by omega, by omega, by omega⟩
  · have a0 : (x + 1 * 8192) / 4096 % 256 = x / 4096 % 256 + 2 := by omega
    have c0 : 0 ≤ x / 4096 % 256 ∧ x / 4096 % 256 < 2 := by omega
    rw [a0]
    clear a0
    generalize x / 4096 % 256 = y0 at *
    have a1 : (x + 1 * 8192) / 2048 % 2 = x / 2048 % 2 := by omega
    have c1 : 0 ≤ x / 2048 % 2 ∧ x / 2048 % 2 < 2 := by omega
    rw [a1]
    clear a1
    generalize x / 2048 % 2 = y1 at *
    have a2 : (x + 1 * 8192) / 2 % 1024 = x / 2 % 1024 := by omega
    have c2 : 0 ≤ x / 2 % 1024 ∧ x / 2 % 1024 < 1024 := by omega
    rw [a2]
    clear a2
    generalize x / 2 % 1024 = y2 at *
    have a3 : (x + 1 * 8192) / 1048576 % 2 = 0 := by omega
    have c3 : x / 1048576 % 2 = 0 := by omega
    rw [a3, c3]
    clear a3 c3
    clear x0 x1
    exact ⟨by omega, by omega, by omega, by omega⟩
theorem stepJ14 (im base : Int) (b0 : 0 ≤ base) (b1 : base < 4096) : 0 ≤ layF 2 (im % 16384) ∧ base + layF 2 (im % 16384) < 4294967296 ∧ (base + layF 2 (im % 16384)) / 16384 % 2 = 0 ∧
    layF 2 (im % 32768) = layF 2 (im % 16384) + bitT im 14 % 2 * 16384 := by
  have e := mod_step im 14 16384 32768 (by decide) (by decide)
  have hb := bitT_bd im 14
  have hx : 0 ≤ im % 16384 ∧ im % 16384 < 16384 := by omega
  rw [e]
  generalize im % 16384 = x at *
  generalize bitT im 14 = b at *
  have l1 : layF 2 x = x / 4096 % 256 * 4096 + x / 2048 % 2 * 1048576 + x / 2 % 1024 * 2097152 + x / 1048576 % 2 * 2147483648 := rfl
  have l2 : layF 2 (x + b * 16384) = (x + b * 16384) / 4096 % 256 * 4096 + (x + b * 16384) / 2048 % 2 * 1048576 + (x + b * 16384) / 2 % 1024 * 2097152 + (x + b * 16384) / 1048576 % 2 * 2147483648 := rfl
  rw [l1, l2]
  obtain ⟨x0, x1⟩ := hx
  rcases hb with rfl | rfl
  · have a0 : (x + 0 * 16384) / 4096 % 256 = x / 4096 % 256 + 0 := by omega
    have c0 : 0 ≤ x / 4096 % 256 ∧ x / 4096 % 256 < 4 := by omega
    rw [a0]
    clear a0
    generalize x / 4096 % 256 = y0 at *
    have a1 : (x + 0 * 16384) / 2048 % 2 = x / 2048 % 2 := by omega
    have c1 : 0 ≤ x / 2048 % 2 ∧ x / 2048 % 2 < 2 := by omega
    rw [a1]
    clear a1
    generalize x / 2048 % 2 = y1 at *
    have a2 : (x + 0 * 16384) / 2 % 1024 = x / 2 % 1024 := by omega
    have c2 : 0 ≤ x / 2 % 1024 ∧ x / 2 % 1024 < 1024 := by omega
    rw [a2]
    clear a2
    generalize x / 2 % 1024 = y2 at *
    have a3 : (x + 0 * 16384) / 1048576 % 2 = 0 := by omega
    have c3 : x / 1048576 % 2 = 0 := by omega
    rw [a3, c3]
    clear a3 c3
    clear x0 x1
    exact ⟨by omega, by omega, by omega, by omega⟩
  · have a0 : (x + 1 * 16384) / 4096 % 256 = x / 4096 % 256 + 4 := by omega
    have c0 : 0 ≤ x / 4096 % 256 ∧ x / 4096 % 256 < 4 := by omega
    rw [a0]
    clear a0
    generalize x / 4096 % 256 = y0 at *
    have a1 : (x + 1 * 16384) / 2048 % 2 = x / 2048 % 2 := by omega
    have c1 : 0 ≤ x / 2048 % 2 ∧ x / 2048 % 2 < 2 := by omega
    rw [a1]
    clear a1
    generalize x / 2048 % 2 = y1 at *
    have a2 : (x + 1 * 16384) / 2 % 1024 = x / 2 % 1024 := by omega
    have c2 : 0 ≤ x / 2 % 1024 ∧ x / 2 % 1024 < 1024 := by omega
    rw [a2]
    clear a2
    generalize x / 2 % 1024 = y2 at *
    have a3 : (x + 1 * 16384) / 1048576 % 2 = 0 := by omega
    have c3 : x / 1048576 % 2 = 0 := by omega
    rw [a3, c3]
    clear a3 c3
    clear x0 x1
    exact ⟨by omega, by omega, by omega, by omega⟩
theorem stepJ15 (im base : Int) (b0 : 0 ≤ base) (b1 : base < 4096) : 0 ≤ layF 2 (im % 32768) ∧ base + layF 2 (im % 32768) < 4294967296 ∧ (base + layF 2 (im % 32768)) / 32768 % 2 = 0 ∧
    layF 2 (im % 65536) = layF 2 (im % 32768) + bitT im 15 % 2 * 32768 := by
  have e := mod_step im 15 32768 65536 (by decide) (by decide)
  have hb := bitT_bd im 15
  have hx : 0 ≤ im % 32768 ∧ im % 32768 < 32768 := by omega
  rw [e]
  generalize im % 32768 = x at *
  generalize bitT im 15 = b at *
  have l1 : layF 2 x = x / 4096 % 256 * 4096 + x / 2048 % 2 * 1048576 + x / 2 % 1024 * 2097152 + x / 1048576 % 2 * 2147483648 := rfl
  have l2 : layF 2 (x + b * 32768) = (x + b * 32768) / 4096 % 256 * 4096 + (x + b * 32768) / 2048 % 2 * 1048576 + (x + b * 32768) / 2 % 1024 * 2097152 + (x + b * 32768) / 1048576 % 2 * 2147483648 := rfl
  rw [l1, l2]
  obtain ⟨x0, x1⟩ := hx
  rcases hb with rfl | rfl
  · have a0 : (x + 0 * 32768) / 4096 % 256 = x / 4096 % 256 + 0 := by omega
    have c0 : 0 ≤ x / 4096 % 256 ∧ x / 4096 % 256 < 8 := by omega
    rw [a0]
    clear a0
    generalize x / 4096 % 256 = y0 at *
    have a1 : (x + 0 * 32768) / 2048 % 2 = x / 2048 % 2 := by omega
    have c1 : 0 ≤ x / 2048 % 2 ∧ x / 2048 % 2 < 2 := by omega
    rw [a1]
    clear a1
    generalize x / 2048 % 2 = y1 at *
    have a2 : (x + 0 * 32768) / 2 % 1024 = x / 2 % 1024 := by omega
    have c2 : 0 ≤ x / 2 % 1024 ∧ x / 2 % 1024 < 1024 := by omega
    rw [a2]
    clear a2
    generalize x / 2 % 1024 = y2 at *
    have a3 : (x + 0 * 32768) / 1048576 % 2 = 0 := by omega
    have c3 : x / 1048576 % 2 = 0 := by omega
    rw [a3, c3]
    clear a3 c3
    clear x0 x1
    exact ⟨by omega, by omega, by omega, by omega⟩
  · have a0 : (x + 1 * 32768) / 4096 % 256 = x / 4096 % 256 + 8 := by omega
    have c0 : 0 ≤ x / 4096 % 256 ∧ x / 4096 % 256 < 8 := by omega
    rw [a0]
    clear a0
    generalize x / 4096 % 256 = y0 at *
    have a1 : (x + 1 * 32768) / 2048 % 2 = x / 2048 % 2 := by omega
    have c1 : 0 ≤ x / 2048 % 2 ∧ x / 2048 % 2 < 2 := by omega
    rw [a1]
    clear a1
    generalize x / 2048 % 2 = y1 at *
    have a2 : (x + 1 * 32768) / 2 % 1024 = x / 2 % 1024 := by omega
    have c2 : 0 ≤ x / 2 % 1024 ∧ x / 2 % 1024 < 1024 := by omega
    rw [a2]
    clear a2
    generalize x / 2 % 1024 = y2 at *
    have a3 : (x + 1 * 32768) / 1048576 % 2 = 0 := by omega
    have c3 : x / 1048576 % 2 = 0 := by omega
    rw [a3, c3]
    clear a3 c3
    clear x0 x1
    exact ⟨by omega, by omega, by omega, by omega⟩
theorem stepJ16 (im base : Int) (b0 : 0 ≤ base) (b1 : base < 4096) : 0 ≤ layF 2 (im % 65536) ∧ base + layF 2 (im % 65536) < 4294967296 ∧ (base + layF 2 (im % 65536)) / 65536 % 2 = 0 ∧
    layF 2 (im % 131072) = layF 2 (im % 65536) + bitT im 16 % 2 * 65536 := by
  have e := mod_step im 16 65536 131072 (by decide) (by decide)
  have hb := bitT_bd im 16
  have hx : 0 ≤ im % 65536 ∧ im % 65536 < 65536 := by omega
  rw [e]
  generalize im % 65536 = x at *
  generalize bitT im 16 = b at *
  have l1 : layF 2 x = x / 4096 % 256 * 4096 + x / 2048 % 2 * 1048576 + x / 2 % 1024 * 2097152 + x / 1048576 % 2 * 2147483648 := rfl
  have l2 : layF 2 (x + b * 65536) = (x + b * 65536) / 4096 % 256 * 4096 + (x + b * 65536) / 2048 % 2 * 1048576 + (x + b * 65536) / 2 % 1024 * 2097152 + (x + b * 65536) / 1048576 % 2 * 2147483648 := rfl
  rw [l1, l2]
  obtain ⟨x0, x1⟩ := hx
  rcases hb with rfl | rfl
  · have a0 : (x + 0 * 65536) / 4096 % 256 = x / 4096 % 256 + 0 := by omega
    have c0 : 0 ≤ x / 4096 % 256 ∧ x / 4096 % 256 < 16 := by omega
    rw [a0]
    clear a0
    generalize x / 4096 % 256 = y0 at *
    have a1 : (x + 0 * 65536) / 2048 % 2 = x / 2048 % 2 := by omega
    have c1 : 0 ≤ x / 2048 % 2 ∧ x / 2048 % 2 < 2 := by omega
    rw [a1]
    clear a1
    generalize x / 2048 % 2 = y1 at *
    have a2 : (x + 0 * 65536) / 2 % 1024 = x / 2 % 1024 := by omega
    have c2 : 0 ≤ x / 2 % 1024 ∧ x / 2 % 1024 < 1024 := by omega
    rw [a2]
    clear a2
    generalize x / 2 % 1024 = y2 at *
    have a3 : (x + 0 * 65536) / 1048576 % 2 = 0 := by omega
    have c3 : x / 1048576 % 2 = 0 := by omega
    rw [a3, c3]
    clear a3 c3
    clear x0 x1
    exact ⟨by omega, by omega, by omega, by omega⟩
  · have a0 : (x + 1 * 65536) / 4096 % 256 = x / 4096 % 256 + 16 := by omega
    have c0 : 0 ≤ x / 4096 % 256 ∧ x / 4096 % 256 < 16 := by omega
    rw [a0]
    clear a0
    generalize x / 4096 % 256 = y0 at *
    have a1 : (x + 1 * 65536) / 2048 % 2 = x / 2048 % 2 := by omega
    have c1 : 0 ≤ x / 2048 % 2 ∧ x / 2048 % 2 < 2 := by omega
    rw [a1]
    clear a1
    generalize x / 2048 % 2 = y1 at *
    have a2 : (x + 1 * 65536) / 2 % 1024 = x / 2 % 1024 := by omega
    have c2 : 0 ≤ x / 2 % 1024 ∧ x / 2 % 1024 < 1024 := by omega
    rw [a2]
    clear a2
    generalize x / 2 % 1024 = y2 at *
    have a3 : (x + 1 * 65536) / 1048576 % 2 = 0 := by omega
    have c3 : x / 1048576 % 2 = 0 := by omega
    rw [a3, c3]
    clear a3 c3
    clear x0 x1
    exact ⟨by omega, by omega, by omega, by omega⟩
theorem stepJ17 (im base : Int) (b0 : 0 ≤ base) (b1 : base < 4096) : 0 ≤ layF 2 (im % 131072) ∧ base + layF 2 (im % 131072) < 4294967296 ∧ (base + layF 2 (im % 131072)) / 131072 % 2 = 0 ∧
    layF 2 (im % 262144) = layF 2 (im % 131072) + bitT im 17 % 2 * 131072 := by
  have e := mod_step im 17 131072 262144 (by decide) (by decide)
  have hb := bitT_bd im 17
  have hx : 0 ≤ im % 131072 ∧ im % 131072 < 131072 := by omega
  rw [e]
  generalize im % 131072 = x at *
  generalize bitT im 17 = b at *
  have l1 : layF 2 x = x / 4096 % 256 * 4096 + x / 2048 % 2 * 1048576 + x / 2 % 1024 * 2097152 + x / 1048576 % 2 * 2147483648 := rfl
  have l2 : layF 2 (x + b * 131072) = (x + b * 131072) / 4096 % 256 * 4096 + (x + b * 131072) / 2048 % 2 * 1048576 + (x + b * 131072) / 2 % 1024 * 2097152 + (x + b * 131072) / 1048576 % 2 * 2147483648 := rfl
  rw [l1, l2]
  obtain ⟨x0, x1⟩ := hx
  rcases hb with rfl | rfl
  · have a0 : (x + 0 * 131072) / 4096 % 256 = x / 4096 % 256 + 0 := by omega
    have c0 : 0 ≤ x / 4096 % 256 ∧ x / 4096 % 256 < 32 := by omega
    rw [a0]
    clear a0
    generalize x / 4096 % 256 = y0 at *
    have a1 : (x + 0 * 131072) / 2048 % 2 = x / 2048 % 2 := by omega
    have c1 : 0 ≤ x / 2048 % 2 ∧ x / 2048 % 2 < 2 := by omega
    rw [a1]
    clear a1
    generalize x / 2048 % 2 = y1 at *
    have a2 : (x + 0 * 131072) / 2 % 1024 = x / 2 % 1024 := by omega
    have c2 : 0 ≤ x / 2 % 1024 ∧ x / 2 % 1024 < 1024 := by omega
    rw [a2]
    clear a2
    generalize x / 2 % 1024 = y2 at *
    have a3 : (x + 0 * 131072) / 1048576 % 2 = 0 := by omega
    have c3 : x / 1048576 % 2 = 0 := by omega
    rw [a3, c3]
    clear a3 c3
    clear x0 x1
    exact ⟨by omega, by omega, by omega, by omega⟩
  · have a0 : (x + 1 * 131072) / 4096 % 256 = x / 4096 % 256 + 32 := by omega
    have c0 : 0 ≤ x / 4096 % 256 ∧ x / 4096 % 256 < 32 := by omega
    rw [a0]
    clear a0
    generalize x / 4096 % 256 = y0 at *
    have a1 : (x + 1 * 131072) / 2048 % 2 = x / 2048 % 2 := by omega
    have c1 : 0 ≤ x / 2048 % 2 ∧ x / 2048 % 2 < 2 := by omega
    rw [a1]
    clear a1
    generalize x / 2048 % 2 = y1 at *
    have a2 : (x + 1 * 131072) / 2 % 1024 = x / 2 % 1024 := by omega
    have c2 : 0 ≤ x / 2 % 1024 ∧ x / 2 % 1024 < 1024 := by omega
    rw [a2]
    clear a2
    generalize x / 2 % 1024 = y2 at *
    have a3 : (x + 1 * 131072) / 1048576 % 2 = 0 := by omega
    have c3 : x / 1048576 % 2 = 0 := by omega
    rw [a3, c3]
    clear a3 c3
    clear x0 x1
    exact ⟨by omega, by omega, by omega, by omega⟩
theorem stepJ18 (im base : Int) (b0 : 0 ≤ base) (b1 : base < 4096) : 0 ≤ layF 2 (im % 262144) ∧ base + layF 2 (im % 262144) < 4294967296 ∧ (base + layF 2 (im % 262144)) / 262144 % 2 = 0 ∧
    layF 2 (im % 524288) = layF 2 (im % 262144) + bitT im 18 % 2 * 262144 := by
  have e := mod_step im 18 262144 524288 (by decide) (by decide)
  have hb := bitT_bd im 18
  have hx : 0 ≤ im % 262144 ∧ im % 262144 < 262144 := by omega
  rw [e]
  generalize im % 262144 = x at *
  generalize bitT im 18 = b at *
  have l1 : layF 2 x = x / 4096 % 256 * 4096 + x / 2048 % 2 * 1048576 + x / 2 % 1024 * 2097152 + x / 1048576 % 2 * 2147483648 := rfl
  have l2 : layF 2 (x + b * 262144) = (x + b * 262144) / 4096 % 256 * 4096 + (x + b * 262144) / 2048 % 2 * 1048576 + (x + b * 262144) / 2 % 1024 * 2097152 + (x + b * 262144) / 1048576 % 2 * 2147483648 := rfl
  rw [l1, l2]
  obtain ⟨x0, x1⟩ := hx
  rcases hb with rfl | rfl
  · have a0 : (x + 0 * 262144) / 4096 % 256 = x / 4096 % 256 + 0 := by omega
    have c0 : 0 ≤ x / 4096 % 256 ∧ x / 4096 % 256 < 64 := by omega
    rw [a0]
    clear a0
    generalize x / 4096 % 256 = y0 at *
    have a1 : (x + 0 * 262144) / 2048 % 2 = x / 2048 % 2 := by omega
    have c1 : 0 ≤ x / 2048 % 2 ∧ x / 2048 % 2 < 2 := by omega
    rw [a1]
    clear a1
    generalize x / 2048 % 2 = y1 at *
    have a2 : (x + 0 * 262144) / 2 % 1024 = x / 2 % 1024 := by omega
    have c2 : 0 ≤ x / 2 % 1024 ∧ x / 2 % 1024 < 1024 := by omega
    rw [a2]
    clear a2
    generalize x / 2 % 1024 = y2 at *
    have a3 : (x + 0 * 262144) / 1048576 % 2 = 0 := by omega
    have c3 : x / 1048576 % 2 = 0 := by omega
    rw [a3, c3]
    clear a3 c3
    clear x0 x1
    exact ⟨by omega, by omega, by omega, by omega⟩
  · have a0 : (x + 1 * 262144) / 4096 % 256 = x / 4096 % 256 + 64 := by omega
    have c0 : 0 ≤ x / 4096 % 256 ∧ x / 4096 % 256 < 64 := by omega
    rw [a0]
    clear a0
    generalize x / 4096 % 256 = y0 at *
    have a1 : (x + 1 * 262144) / 2048 % 2 = x / 2048 % 2 := by omega
    have c1 : 0 ≤ x / 2048 % 2 ∧ x / 2048 % 2 < 2 := by omega
    rw [a1]
    clear a1
    generalize x / 2048 % 2 = y1 at *
    have a2 : (x + 1 * 262144) / 2 % 1024 = x / 2 % 1024 := by omega
    have c2 : 0 ≤ x / 2 % 1024 ∧ x / 2 % 1024 < 1024 := by omega
    rw [a2]
    clear a2
    generalize x / 2 % 1024 = y2 at *
    have a3 : (x + 1 * 262144) / 1048576 % 2 = 0 := by omega
    have c3 : x / 1048576 % 2 = 0 := by omega
    rw [a3, c3]
    clear a3 c3
    clear x0 x1
    exact ⟨by omega, by omega, by omega, by omega⟩
theorem stepJ19 (im base : Int) (b0 : 0 ≤ base) (b1 : base < 4096) : 0 ≤ layF 2 (im % 524288) ∧ base + layF 2 (im % 524288) < 4294967296 ∧ (base + layF 2 (im % 524288)) / 524288 % 2 = 0 ∧
    layF 2 (im % 1048576) = layF 2 (im % 524288) + bitT im 19 % 2 * 524288 := by
  have e := mod_step im 19 524288 1048576 (by decide) (by decide)
  have hb := bitT_bd im 19
  have hx : 0 ≤ im % 524288 ∧ im % 524288 < 524288 := by omega
  rw [e]
  generalize im % 524288 = x at *
  generalize bitT im 19 = b at *
  have l1 : layF 2 x = x / 4096 % 256 * 4096 + x / 2048 % 2 * 1048576 + x / 2 % 1024 * 2097152 + x / 1048576 % 2 * 2147483648 := rfl
  have l2 : layF 2 (x + b * 524288) = (x + b * 524288) / 4096 % 256 * 4096 + (x + b * 524288) / 2048 % 2 * 1048576 + (x + b * 524288) / 2 % 1024 * 2097152 + (x + b * 524288) / 1048576 % 2 * 2147483648 := rfl
  rw [l1, l2]
  obtain ⟨x0, x1⟩ := hx
  rcases hb with rfl | rfl
  · have a0 : (x + 0 * 524288) / 4096 % 256 = x / 4096 % 256 + 0 := by omega
    have c0 : 0 ≤ x / 4096 % 256 ∧ x / 4096 % 256 < 128 := by omega
    rw [a0]
    clear a0
    generalize x / 4096 % 256 = y0 at *
    have a1 : (x + 0 * 524288) / 2048 % 2 = x / 2048 % 2 := by omega
    have c1 : 0 ≤ x / 2048 % 2 ∧ x / 2048 % 2 < 2 := by omega
    rw [a1]
    clear a1
    generalize x / 2048 % 2 = y1 at *
    have a2 : (x + 0 * 524288) / 2 % 1024 = x / 2 % 1024 := by omega
    have c2 : 0 ≤ x / 2 % 1024 ∧ x / 2 % 1024 < 1024 := by omega
    rw [a2]
    clear a2
    generalize x / 2 % 1024 = y2 at *
    have a3 : (x + 0 * 524288) / 1048576 % 2 = 0 := by omega
    have c3 : x / 1048576 % 2 = 0 := by omega
    rw [a3, c3]
    clear a3 c3
    clear x0 x1
    exact ⟨by omega, by omega, by omega, by omega⟩
  · have a0 : (x + 1 * 524288) / 4096 % 256 = x / 4096 % 256 + 128 := by omega
    have c0 : 0 ≤ x / 4096 % 256 ∧ x / 4096 % 256 < 128 := by omega
    rw [a0]
    clear a0
    generalize x / 4096 % 256 = y0 at *
    have a1 : (x + 1 * 524288) / 2048 % 2 = x / 2048 % 2 := by omega
    have c1 : 0 ≤ x / 2048 % 2 ∧ x / 2048 % 2 < 2 := by omega
    rw [a1]
    clear a1
    generalize x / 2048 % 2 = y1 at *
    have a2 : (x + 1 * 524288) / 2 % 1024 = x / 2 % 1024 := by omega
    have c2 : 0 ≤ x / 2 % 1024 ∧ x / 2 % 1024 < 1024 := by omega
    rw [a2]
    clear a2
    generalize x / 2 % 1024 = y2 at *
    have a3 : (x + 1 * 524288) / 1048576 % 2 = 0 := by omega
    have c3 : x / 1048576 % 2 = 0 := by omega
    rw [a3, c3]
    clear a3 c3
    clear x0 x1
    exact ⟨by omega, by omega, by omega, by omega⟩
theorem stepJ20 (im base : Int) (b0 : 0 ≤ base) (b1 : base < 4096) : 0 ≤ layF 2 (im % 1048576) ∧ base + layF 2 (im % 1048576) < 4294967296 ∧ (base + layF 2 (im % 1048576)) / 2147483648 % 2 = 0 ∧
    layF 2 (im % 2097152) = layF 2 (im % 1048576) + bitT im 20 % 2 * 2147483648 := by
  have e := mod_step im 20 1048576 2097152 (by decide) (by decide)
  have hb := bitT_bd im 20
  have hx : 0 ≤ im % 1048576 ∧ im % 1048576 < 1048576 := by omega
  rw [e]
  generalize im % 1048576 = x at *
  generalize bitT im 20 = b at *
  have l1 : layF 2 x = x / 4096 % 256 * 4096 + x / 2048 % 2 * 1048576 + x / 2 % 1024 * 2097152 + x / 1048576 % 2 * 2147483648 := rfl
  have l2 : layF 2 (x + b * 1048576) = (x + b * 1048576) / 4096 % 256 * 4096 + (x + b * 1048576) / 2048 % 2 * 1048576 + (x + b * 1048576) / 2 % 1024 * 2097152 + (x + b * 1048576) / 1048576 % 2 * 2147483648 := rfl
  rw [l1, l2]
  obtain ⟨x0, x1⟩ := hx
  rcases hb with rfl | rfl
  · have a0 : (x + 0 * 1048576) / 4096 % 256 = x / 4096 % 256 := by omega
    have c0 : 0 ≤ x / 4096 % 256 ∧ x / 4096 % 256 < 256 := by omega
    rw [a0]
    clear a0
    generalize x / 4096 % 256 = y0 at *
    have a1 : (x + 0 * 1048576) / 2048 % 2 = x / 2048 % 2 := by omega
    have c1 : 0 ≤ x / 2048 % 2 ∧ x / 2048 % 2 < 2 := by omega
    rw [a1]
    clear a1
    generalize x / 2048 % 2 = y1 at *
    have a2 : (x + 0 * 1048576) / 2 % 1024 = x / 2 % 1024 := by omega
    have c2 : 0 ≤ x / 2 % 1024 ∧ x / 2 % 1024 < 1024 := by omega
    rw [a2]
    clear a2
    generalize x / 2 % 1024 = y2 at *
    have a3 : (x + 0 * 1048576) / 1048576 % 2 = 0 := by omega
    have c3 : x / 1048576 % 2 = 0 := by omega
    rw [a3, c3]
    clear a3 c3
    clear x0 x1
    exact ⟨by omega, by omega, by omega, by omega⟩
  · have a0 : (x + 1 * 1048576) / 4096 % 256 = x / 4096 % 256 := by omega
    have c0 : 0 ≤ x / 4096 % 256 ∧ x / 4096 % 256 < 256 := by omega
    rw [a0]
    clear a0
    generalize x / 4096 % 256 = y0 at *
    have a1 : (x + 1 * 1048576) / 2048 % 2 = x / 2048 % 2 := by omega
    have c1 : 0 ≤ x / 2048 % 2 ∧ x / 2048 % 2 < 2 := by omega
    rw [a1]
    clear a1
    generalize x / 2048 % 2 = y1 at *
    have a2 : (x + 1 * 1048576) / 2 % 1024 = x / 2 % 1024 := by omega
    have c2 : 0 ≤ x / 2 % 1024 ∧ x / 2 % 1024 < 1024 := by omega
    rw [a2]
    clear a2
    generalize x / 2 % 1024 = y2 at *
    have a3 : (x + 1 * 1048576) / 1048576 % 2 = 1 := by omega
    have c3 : x / 1048576 % 2 = 0 := by omega
    rw [a3, c3]
    clear a3 c3
    clear x0 x1
    exact ⟨by omega, by omega, by omega, by omega⟩
def atJ (k : Nat) : Nat := if k = 20 then 31 else if 11 < k then k else if k = 11 then 20 else 20 + k
theorem stepJ (im base : Int) (k : Nat) (b0 : 0 ≤ base) (b1 : base < 4096) (h0 : 1 ≤ k) (h1 : k ≤ 20) : 0 ≤ layF 2 (im % 2 ^ k) ∧ base + layF 2 (im % 2 ^ k) < 4294967296 ∧ (base + layF 2 (im % 2 ^ k)) / 2 ^ atJ k % 2 ^ 1 = 0 ∧
    layF 2 (im % 2 ^ (k + 1)) = layF 2 (im % 2 ^ k) + bitT im k % 2 ^ 1 * 2 ^ atJ k := by
  rcases (show k = 1 ∨ k = 2 ∨ k = 3 ∨ k = 4 ∨ k = 5 ∨ k = 6 ∨ k = 7 ∨ k = 8 ∨ k = 9 ∨ k = 10 ∨ k = 11 ∨ k = 12 ∨ k = 13 ∨ k = 14 ∨ k = 15 ∨ k = 16 ∨ k = 17 ∨ k = 18 ∨ k = 19 ∨ k = 20 by omega) with rfl | rfl | rfl | rfl | rfl | rfl | rfl | rfl | rfl | rfl | rfl | rfl | rfl | rfl | rfl | rfl | rfl | rfl | rfl | rfl
  · exact stepJ1 im base b0 b1
  · exact stepJ2 im base b0 b1
  · exact stepJ3 im base b0 b1
  · exact stepJ4 im base b0 b1
  · exact stepJ5 im base b0 b1
  · exact stepJ6 im base b0 b1
  · exact stepJ7 im base b0 b1
  · exact stepJ8 im base b0 b1
  · exact stepJ9 im base b0 b1
  · exact stepJ10 im base b0 b1
  · exact stepJ11 im base b0 b1
  · exact stepJ12 im base b0 b1
  · exact stepJ13 im base b0 b1
  · exact stepJ14 im base b0 b1
  · exact stepJ15 im base b0 b1
  · exact stepJ16 im base b0 b1
  · exact stepJ17 im base b0 b1
  · exact stepJ18 im base b0 b1
  · exact stepJ19 im base b0 b1
  · exact stepJ20 im base b0 b1
theorem fullJ (im : Int) : layF 2 (im % 2 ^ 21) = layF 2 im := by
  have l1 : layF 2 im = im / 4096 % 256 * 4096 + im / 2048 % 2 * 1048576 + im / 2 % 1024 * 2097152 + im / 1048576 % 2 * 2147483648 := rfl
  have l2 : layF 2 (im % 2 ^ 21) = (im % 2097152) / 4096 % 256 * 4096 + (im % 2097152) / 2048 % 2 * 1048576 + (im % 2097152) / 2 % 1024 * 2097152 + (im % 2097152) / 1048576 % 2 * 2147483648 := rfl
  rw [l1, l2]
  omega
end Go.Proofs.YtelogjpjglohoaaGreatDoor
