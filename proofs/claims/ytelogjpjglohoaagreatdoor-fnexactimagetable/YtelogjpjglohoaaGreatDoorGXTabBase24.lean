/- An instruction's word laid bit by bit: plain (2). Contracts of the model's bits and signs. -/
import Derived.Test.YtelogjpjglohoaaGreatDoorGXTabBase23
import Derived.Test.YtelogjpjglohoaaGreatDoorRows
import Derived.Test.YtelogjpjglohoaaGreatDoorGXTabBase14
namespace Go.Proofs.YtelogjpjglohoaaGreatDoor
set_option linter.unusedVariables false

theorem stepB1 (im base : Int) (b0 : 0 ≤ base) (b1 : base < 33554432) (b2 : base / 128 % 32 = 0) : 0 ≤ layF 4 (im % 2) ∧ base + layF 4 (im % 2) < 4294967296 ∧ (base + layF 4 (im % 2)) / 256 % 2 = 0 ∧
    layF 4 (im % 4) = layF 4 (im % 2) + bitT im 1 % 2 * 256 := by
  have e := mod_step im 1 2 4 (by decide) (by decide)
  have hb := bitT_bd im 1
  have hx : 0 ≤ im % 2 ∧ im % 2 < 2 := by omega
  rw [e]
  generalize im % 2 = x at *
  generalize bitT im 1 = b at *
  have l1 : layF 4 x = x / 2048 % 2 * 128 + x / 2 % 16 * 256 + x / 32 % 64 * 33554432 + x / 4096 % 2 * 2147483648 := rfl
  have l2 : layF 4 (x + b * 2) = (x + b * 2) / 2048 % 2 * 128 + (x + b * 2) / 2 % 16 * 256 + (x + b * 2) / 32 % 64 * 33554432 + (x + b * 2) / 4096 % 2 * 2147483648 := rfl
  rw [l1, l2]
  obtain ⟨x0, x1⟩ := hx
  rcases hb with rfl | rfl
  · have a0 : (x + 0 * 2) / 2048 % 2 = 0 := by omega
    have c0 : x / 2048 % 2 = 0 := by omega
    rw [a0, c0]
    clear a0 c0
    have a1 : (x + 0 * 2) / 2 % 16 = 0 := by omega
    have c1 : x / 2 % 16 = 0 := by omega
    rw [a1, c1]
    clear a1 c1
    have a2 : (x + 0 * 2) / 32 % 64 = 0 := by omega
    have c2 : x / 32 % 64 = 0 := by omega
    rw [a2, c2]
    clear a2 c2
    have a3 : (x + 0 * 2) / 4096 % 2 = 0 := by omega
    have c3 : x / 4096 % 2 = 0 := by omega
    rw [a3, c3]
    clear a3 c3
    clear x0 x1
    exact ⟨by omega, by omega, by omega, by omega⟩
  · have a0 : (x + 1 * 2) / 2048 % 2 = 0 := by omega
    have c0 : x / 2048 % 2 = 0 := by omega
    rw [a0, c0]
    clear a0 c0
    have a1 : (x + 1 * 2) / 2 % 16 = 1 := by omega
    have c1 : x / 2 % 16 = 0 := by omega
    rw [a1, c1]
    clear a1 c1
    have a2 : (x + 1 * 2) / 32 % 64 = 0 := by omega
    have c2 : x / 32 % 64 = 0 := by omega
    rw [a2, c2]
    clear a2 c2
    have a3 : (x + 1 * 2) / 4096 % 2 = 0 := by omega
    have c3 : x / 4096 % 2 = 0 := by omega
    rw [a3, c3]
    clear a3 c3
    clear x0 x1
    exact ⟨by omega, by omega, by omega, by omega⟩
theorem stepB2 (im base : Int) (b0 : 0 ≤ base) (b1 : base < 33554432) (b2 : base / 128 % 32 = 0) : 0 ≤ layF 4 (im % 4) ∧ base + layF 4 (im % 4) < 4294967296 ∧ (base + layF 4 (im % 4)) / 512 % 2 = 0 ∧
    layF 4 (im % 8) = layF 4 (im % 4) + bitT im 2 % 2 * 512 := by
  have e := mod_step im 2 4 8 (by decide) (by decide)
  have hb := bitT_bd im 2
  have hx : 0 ≤ im % 4 ∧ im % 4 < 4 := by omega
  rw [e]
  generalize im % 4 = x at *
  generalize bitT im 2 = b at *
  have l1 : layF 4 x = x / 2048 % 2 * 128 + x / 2 % 16 * 256 + x / 32 % 64 * 33554432 + x / 4096 % 2 * 2147483648 := rfl
  have l2 : layF 4 (x + b * 4) = (x + b * 4) / 2048 % 2 * 128 + (x + b * 4) / 2 % 16 * 256 + (x + b * 4) / 32 % 64 * 33554432 + (x + b * 4) / 4096 % 2 * 2147483648 := rfl
  rw [l1, l2]
  obtain ⟨x0, x1⟩ := hx
  rcases hb with rfl | rfl
  · have a0 : (x + 0 * 4) / 2048 % 2 = 0 := by omega
    have c0 : x / 2048 % 2 = 0 := by omega
    rw [a0, c0]
    clear a0 c0
    have a1 : (x + 0 * 4) / 2 % 16 = x / 2 % 16 + 0 := by omega
    have c1 : 0 ≤ x / 2 % 16 ∧ x / 2 % 16 < 2 := by omega
    rw [a1]
    clear a1
    generalize x / 2 % 16 = y1 at *
    have a2 : (x + 0 * 4) / 32 % 64 = 0 := by omega
    have c2 : x / 32 % 64 = 0 := by omega
    rw [a2, c2]
    clear a2 c2
    have a3 : (x + 0 * 4) / 4096 % 2 = 0 := by omega
    have c3 : x / 4096 % 2 = 0 := by omega
    rw [a3, c3]
    clear a3 c3
    clear x0 x1
    exact ⟨by omega, by omega, by omega, by omega⟩
  · have a0 : (x + 1 * 4) / 2048 % 2 = 0 := by omega
    have c0 : x / 2048 % 2 = 0 := by omega
    rw [a0, c0]
    clear a0 c0
    have a1 : (x + 1 * 4) / 2 % 16 = x / 2 % 16 + 2 := by omega
    have c1 : 0 ≤ x / 2 % 16 ∧ x / 2 % 16 < 2 := by omega
    rw [a1]
    clear a1
    generalize x / 2 % 16 = y1 at *
    have a2 : (x + 1 * 4) / 32 % 64 = 0 := by omega
    have c2 : x / 32 % 64 = 0 := by omega
    rw [a2, c2]
    clear a2 c2
    have a3 : (x + 1 * 4) / 4096 % 2 = 0 := by omega
    have c3 : x / 4096 % 2 = 0 := by omega
    rw [a3, c3]
    clear a3 c3
    clear x0 x1
    exact ⟨by omega, by omega, by omega, by omega⟩
theorem stepB3 (im base : Int) (b0 : 0 ≤ base) (b1 : base < 33554432) (b2 : base / 128 % 32 = 0) : 0 ≤ layF 4 (im % 8) ∧ base + layF 4 (im % 8) < 4294967296 ∧ (base + layF 4 (im % 8)) / 1024 % 2 = 0 ∧
    layF 4 (im % 16) = layF 4 (im % 8) + bitT im 3 % 2 * 1024 := by
  have e := mod_step im 3 8 16 (by decide) (by decide)
  have hb := bitT_bd im 3
  have hx : 0 ≤ im % 8 ∧ im % 8 < 8 := by omega
  rw [e]
  generalize im % 8 = x at *
  generalize bitT im 3 = b at *
  have l1 : layF 4 x = x / 2048 % 2 * 128 + x / 2 % 16 * 256 + x / 32 % 64 * 33554432 + x / 4096 % 2 * 2147483648 := rfl
  have l2 : layF 4 (x + b * 8) = (x + b * 8) / 2048 % 2 * 128 + (x + b * 8) / 2 % 16 * 256 + (x + b * 8) / 32 % 64 * 33554432 + (x + b * 8) / 4096 % 2 * 2147483648 := rfl
  rw [l1, l2]
  obtain ⟨x0, x1⟩ := hx
  rcases hb with rfl | rfl
  · have a0 : (x + 0 * 8) / 2048 % 2 = 0 := by omega
    have c0 : x / 2048 % 2 = 0 := by omega
    rw [a0, c0]
    clear a0 c0
    have a1 : (x + 0 * 8) / 2 % 16 = x / 2 % 16 + 0 := by omega
    have c1 : 0 ≤ x / 2 % 16 ∧ x / 2 % 16 < 4 := by omega
    rw [a1]
    clear a1
    generalize x / 2 % 16 = y1 at *
    have a2 : (x + 0 * 8) / 32 % 64 = 0 := by omega
    have c2 : x / 32 % 64 = 0 := by omega
    rw [a2, c2]
    clear a2 c2
    have a3 : (x + 0 * 8) / 4096 % 2 = 0 := by omega
    have c3 : x / 4096 % 2 = 0 := by omega
    rw [a3, c3]
    clear a3 c3
    clear x0 x1
    exact ⟨by omega, by omega, by omega, by omega⟩
  · have a0 : (x + 1 * 8) / 2048 % 2 = 0 := by omega
    have c0 : x / 2048 % 2 = 0 := by omega
    rw [a0, c0]
    clear a0 c0
    have a1 : (x + 1 * 8) / 2 % 16 = x / 2 % 16 + 4 := by omega
    have c1 : 0 ≤ x / 2 % 16 ∧ x / 2 % 16 < 4 := by omega
    rw [a1]
    clear a1
    generalize x / 2 % 16 = y1 at *
    have a2 : (x + 1 * 8) / 32 % 64 = 0 := by omega
    have c2 : x / 32 % 64 = 0 := by omega
    rw [a2, c2]
    clear a2 c2
    have a3 : (x + 1 * 8) / 4096 % 2 = 0 := by omega
    have c3 : x / 4096 % 2 = 0 := by omega
    rw [a3, c3]
    clear a3 c3
    clear x0 x1
    exact ⟨by omega, by omega, by omega, by omega⟩
theorem stepB4 (im base : Int) (b0 : 0 ≤ base) (b1 : base < 33554432) (b2 : base / 128 % 32 = 0) : 0 ≤ layF 4 (im % 16) ∧ base + layF 4 (im % 16) < 4294967296 ∧ (base + layF 4 (im % 16)) / 2048 % 2 = 0 ∧
    layF 4 (im % 32) = layF 4 (im % 16) + bitT im 4 % 2 * 2048 := by
  have e := mod_step im 4 16 32 (by decide) (by decide)
  have hb := bitT_bd im 4
  have hx : 0 ≤ im % 16 ∧ im % 16 < 16 := by omega
  rw [e]
  generalize im % 16 = x at *
  generalize bitT im 4 = b at *
  have l1 : layF 4 x = x / 2048 % 2 * 128 + x / 2 % 16 * 256 + x / 32 % 64 * 33554432 + x / 4096 % 2 * 2147483648 := rfl
  have l2 : layF 4 (x + b * 16) = (x + b * 16) / 2048 % 2 * 128 + (x + b * 16) / 2 % 16 * 256 + (x + b * 16) / 32 % 64 * 33554432 + (x + b * 16) / 4096 % 2 * 2147483648 := rfl
  rw [l1, l2]
  obtain ⟨x0, x1⟩ := hx
  rcases hb with rfl | rfl
  · have a0 : (x + 0 * 16) / 2048 % 2 = 0 := by omega
    have c0 : x / 2048 % 2 = 0 := by omega
    rw [a0, c0]
    clear a0 c0
    have a1 : (x + 0 * 16) / 2 % 16 = x / 2 % 16 + 0 := by omega
    have c1 : 0 ≤ x / 2 % 16 ∧ x / 2 % 16 < 8 := by omega
    rw [a1]
    clear a1
    generalize x / 2 % 16 = y1 at *
    have a2 : (x + 0 * 16) / 32 % 64 = 0 := by omega
    have c2 : x / 32 % 64 = 0 := by omega
    rw [a2, c2]
    clear a2 c2
    have a3 : (x + 0 * 16) / 4096 % 2 = 0 := by omega
    have c3 : x / 4096 % 2 = 0 := by omega
    rw [a3, c3]
    clear a3 c3
    clear x0 x1
    exact ⟨by omega, by omega, by omega, by omega⟩
  · have a0 : (x + 1 * 16) / 2048 % 2 = 0 := by omega
    have c0 : x / 2048 % 2 = 0 := by omega
    rw [a0, c0]
    clear a0 c0
    have a1 : (x + 1 * 16) / 2 % 16 = x / 2 % 16 + 8 := by omega
    have c1 : 0 ≤ x / 2 % 16 ∧ x / 2 % 16 < 8 := by omega
    rw [a1]
    clear a1
    generalize x / 2 % 16 = y1 at *
    have a2 : (x + 1 * 16) / 32 % 64 = 0 := by omega
    have c2 : x / 32 % 64 = 0 := by omega
    rw [a2, c2]
    clear a2 c2
    have a3 : (x + 1 * 16) / 4096 % 2 = 0 := by omega
    have c3 : x / 4096 % 2 = 0 := by omega
    rw [a3, c3]
    clear a3 c3
    clear x0 x1
    exact ⟨by omega, by omega, by omega, by omega⟩
theorem stepB5 (im base : Int) (b0 : 0 ≤ base) (b1 : base < 33554432) (b2 : base / 128 % 32 = 0) : 0 ≤ layF 4 (im % 32) ∧ base + layF 4 (im % 32) < 4294967296 ∧ (base + layF 4 (im % 32)) / 33554432 % 2 = 0 ∧
    layF 4 (im % 64) = layF 4 (im % 32) + bitT im 5 % 2 * 33554432 := by
  have e := mod_step im 5 32 64 (by decide) (by decide)
  have hb := bitT_bd im 5
  have hx : 0 ≤ im % 32 ∧ im % 32 < 32 := by omega
  rw [e]
  generalize im % 32 = x at *
  generalize bitT im 5 = b at *
  have l1 : layF 4 x = x / 2048 % 2 * 128 + x / 2 % 16 * 256 + x / 32 % 64 * 33554432 + x / 4096 % 2 * 2147483648 := rfl
  have l2 : layF 4 (x + b * 32) = (x + b * 32) / 2048 % 2 * 128 + (x + b * 32) / 2 % 16 * 256 + (x + b * 32) / 32 % 64 * 33554432 + (x + b * 32) / 4096 % 2 * 2147483648 := rfl
  rw [l1, l2]
  obtain ⟨x0, x1⟩ := hx
  rcases hb with rfl | rfl
  · have a0 : (x + 0 * 32) / 2048 % 2 = 0 := by omega
    have c0 : x / 2048 % 2 = 0 := by omega
    rw [a0, c0]
    clear a0 c0
    have a1 : (x + 0 * 32) / 2 % 16 = x / 2 % 16 := by omega
    have c1 : 0 ≤ x / 2 % 16 ∧ x / 2 % 16 < 16 := by omega
    rw [a1]
    clear a1
    generalize x / 2 % 16 = y1 at *
    have a2 : (x + 0 * 32) / 32 % 64 = 0 := by omega
    have c2 : x / 32 % 64 = 0 := by omega
    rw [a2, c2]
    clear a2 c2
    have a3 : (x + 0 * 32) / 4096 % 2 = 0 := by omega
    have c3 : x / 4096 % 2 = 0 := by omega
    rw [a3, c3]
    clear a3 c3
    clear x0 x1
    exact ⟨by omega, by omega, by omega, by omega⟩
  · have a0 : (x + 1 * 32) / 2048 % 2 = 0 := by omega
    have c0 : x / 2048 % 2 = 0 := by omega
    rw [a0, c0]
    clear a0 c0
    have a1 : (x + 1 * 32) / 2 % 16 = x / 2 % 16 := by omega
    have c1 : 0 ≤ x / 2 % 16 ∧ x / 2 % 16 < 16 := by omega
    rw [a1]
    clear a1
    generalize x / 2 % 16 = y1 at *
    have a2 : (x + 1 * 32) / 32 % 64 = 1 := by omega
    have c2 : x / 32 % 64 = 0 := by omega
    rw [a2, c2]
    clear a2 c2
    have a3 : (x + 1 * 32) / 4096 % 2 = 0 := by omega
    have c3 : x / 4096 % 2 = 0 := by omega
    rw [a3, c3]
    clear a3 c3
    clear x0 x1
    exact ⟨by omega, by omega, by omega, by omega⟩
theorem stepB6 (im base : Int) (b0 : 0 ≤ base) (b1 : base < 33554432) (b2 : base / 128 % 32 = 0) : 0 ≤ layF 4 (im % 64) ∧ base + layF 4 (im % 64) < 4294967296 ∧ (base + layF 4 (im % 64)) / 67108864 % 2 = 0 ∧
    layF 4 (im % 128) = layF 4 (im % 64) + bitT im 6 % 2 * 67108864 := by
  have e := mod_step im 6 64 128 (by decide) (by decide)
  have hb := bitT_bd im 6
  have hx : 0 ≤ im % 64 ∧ im % 64 < 64 := by omega
  rw [e]
  generalize im % 64 = x at *
  generalize bitT im 6 = b at *
  have l1 : layF 4 x = x / 2048 % 2 * 128 + x / 2 % 16 * 256 + x / 32 % 64 * 33554432 + x / 4096 % 2 * 2147483648 := rfl
  have l2 : layF 4 (x + b * 64) = (x + b * 64) / 2048 % 2 * 128 + (x + b * 64) / 2 % 16 * 256 + (x + b * 64) / 32 % 64 * 33554432 + (x + b * 64) / 4096 % 2 * 2147483648 := rfl
  rw [l1, l2]
  obtain ⟨x0, x1⟩ := hx
  rcases hb with rfl | rfl
  · have a0 : (x + 0 * 64) / 2048 % 2 = 0 := by omega
    have c0 : x / 2048 % 2 = 0 := by omega
    rw [a0, c0]
    clear a0 c0
    have a1 : (x + 0 * 64) / 2 % 16 = x / 2 % 16 := by omega
    have c1 : 0 ≤ x / 2 % 16 ∧ x / 2 % 16 < 16 := by omega
    rw [a1]
    clear a1
    generalize x / 2 % 16 = y1 at *
    have a2 : (x + 0 * 64) / 32 % 64 = x / 32 % 64 + 0 := by omega
    have c2 : 0 ≤ x / 32 % 64 ∧ x / 32 % 64 < 2 := by omega
    rw [a2]
    clear a2
    generalize x / 32 % 64 = y2 at *
    have a3 : (x + 0 * 64) / 4096 % 2 = 0 := by omega
    have c3 : x / 4096 % 2 = 0 := by omega
    rw [a3, c3]
    clear a3 c3
    clear x0 x1
    exact ⟨by omega, by omega, by omega, by omega⟩
  · have a0 : (x + 1 * 64) / 2048 % 2 = 0 := by omega
    have c0 : x / 2048 % 2 = 0 := by omega
    rw [a0, c0]
    clear a0 c0
    have a1 : (x + 1 * 64) / 2 % 16 = x / 2 % 16 := by omega
    have c1 : 0 ≤ x / 2 % 16 ∧ x / 2 % 16 < 16 := by omega
    rw [a1]
    clear a1
    generalize x / 2 % 16 = y1 at *
    have a2 : (x + 1 * 64) / 32 % 64 = x / 32 % 64 + 2 := by omega
    have c2 : 0 ≤ x / 32 % 64 ∧ x / 32 % 64 < 2 := by omega
    rw [a2]
    clear a2
    generalize x / 32 % 64 = y2 at *
    have a3 : (x + 1 * 64) / 4096 % 2 = 0 := by omega
    have c3 : x / 4096 % 2 = 0 := by omega
    rw [a3, c3]
    clear a3 c3
    clear x0 x1
    exact ⟨by omega, by omega, by omega, by omega⟩
theorem stepB7 (im base : Int) (b0 : 0 ≤ base) (b1 : base < 33554432) (b2 : base / 128 % 32 = 0) : 0 ≤ layF 4 (im % 128) ∧ base + layF 4 (im % 128) < 4294967296 ∧ (base + layF 4 (im % 128)) / 134217728 % 2 = 0 ∧
    layF 4 (im % 256) = layF 4 (im % 128) + bitT im 7 % 2 * 134217728 := by
  have e := mod_step im 7 128 256 (by decide) (by decide)
  have hb := bitT_bd im 7
  have hx : 0 ≤ im % 128 ∧ im % 128 < 128 := by omega
  rw [e]
  generalize im % 128 = x at *
  generalize bitT im 7 = b at *
  have l1 : layF 4 x = x / 2048 % 2 * 128 + x / 2 % 16 * 256 + x / 32 % 64 * 33554432 + x / 4096 % 2 * 2147483648 := rfl
  have l2 : layF 4 (x + b * 128) = (x + b * 128) / 2048 % 2 * 128 + (x + b * 128) / 2 % 16 * 256 + (x + b * 128) / 32 % 64 * 33554432 + (x + b * 128) / 4096 % 2 * 2147483648 := rfl
  rw [l1, l2]
  obtain ⟨x0, x1⟩ := hx
  rcases hb with rfl | rfl
  · have a0 : (x + 0 * 128) / 2048 % 2 = 0 := by omega
    have c0 : x / 2048 % 2 = 0 := by omega
    rw [a0, c0]
    clear a0 c0
    have a1 : (x + 0 * 128) / 2 % 16 = x / 2 % 16 := by omega
    have c1 : 0 ≤ x / 2 % 16 ∧ x / 2 % 16 < 16 := by omega
    rw [a1]
    clear a1
    generalize x / 2 % 16 = y1 at *
    have a2 : (x + 0 * 128) / 32 % 64 = x / 32 % 64 + 0 := by omega
    have c2 : 0 ≤ x / 32 % 64 ∧ x / 32 % 64 < 4 := by omega
    rw [a2]
    clear a2
    generalize x / 32 % 64 = y2 at *
    have a3 : (x + 0 * 128) / 4096 % 2 = 0 := by omega
    have c3 : x / 4096 % 2 = 0 := by omega
    rw [a3, c3]
    clear a3 c3
    clear x0 x1
    exact ⟨by omega, by omega, by omega, by omega⟩
  · have a0 : (x + 1 * 128) / 2048 % 2 = 0 := by omega
    have c0 : x / 2048 % 2 = 0 := by omega
    rw [a0, c0]
    clear a0 c0
    have a1 : (x + 1 * 128) / 2 % 16 = x / 2 % 16 := by omega
    have c1 : 0 ≤ x / 2 % 16 ∧ x / 2 % 16 < 16 := by omega
    rw [a1]
    clear a1
    generalize x / 2 % 16 = y1 at *
    have a2 : (x + 1 * 128) / 32 % 64 = x / 32 % 64 + 4 := by omega
    have c2 : 0 ≤ x / 32 % 64 ∧ x / 32 % 64 < 4 := by omega
    rw [a2]
    clear a2
    generalize x / 32 % 64 = y2 at *
    have a3 : (x + 1 * 128) / 4096 % 2 = 0 := by omega
    have c3 : x / 4096 % 2 = 0 := by omega
    rw [a3, c3]
    clear a3 c3
    clear x0 x1
    exact ⟨by omega, by omega, by omega, by omega⟩
theorem stepB8 (im base : Int) (b0 : 0 ≤ base) (b1 : base < 33554432) (b2 : base / 128 % 32 = 0) : 0 ≤ layF 4 (im % 256) ∧ base + layF 4 (im % 256) < 4294967296 ∧ (base + layF 4 (im % 256)) / 268435456 % 2 = 0 ∧
    layF 4 (im % 512) = layF 4 (im % 256) + bitT im 8 % 2 * 268435456 := by
  have e := mod_step im 8 256 512 (by decide) (by decide)
  have hb := bitT_bd im 8
  have hx : 0 ≤ im % 256 ∧ im % 256 < 256 := by omega
  rw [e]
  generalize im % 256 = x at *
  generalize bitT im 8 = b at *
  have l1 : layF 4 x = x / 2048 % 2 * 128 + x / 2 % 16 * 256 + x / 32 % 64 * 33554432 + x / 4096 % 2 * 2147483648 := rfl
  have l2 : layF 4 (x + b * 256) = (x + b * 256) / 2048 % 2 * 128 + (x + b * 256) / 2 % 16 * 256 + (x + b * 256) / 32 % 64 * 33554432 + (x + b * 256) / 4096 % 2 * 2147483648 := rfl
  rw [l1, l2]
  obtain ⟨x0, x1⟩ := hx
  rcases hb with rfl | rfl
  · have a0 : (x + 0 * 256) / 2048 % 2 = 0 := by omega
    have c0 : x / 2048 % 2 = 0 := by omega
    rw [a0, c0]
    clear a0 c0
    have a1 : (x + 0 * 256) / 2 % 16 = x / 2 % 16 := by omega
    have c1 : 0 ≤ x / 2 % 16 ∧ x / 2 % 16 < 16 := by omega
    rw [a1]
    clear a1
    generalize x / 2 % 16 = y1 at *
    have a2 : (x + 0 * 256) / 32 % 64 = x / 32 % 64 + 0 := by omega
    have c2 : 0 ≤ x / 32 % 64 ∧ x / 32 % 64 < 8 := by omega
    rw [a2]
    clear a2
    generalize x / 32 % 64 = y2 at *
    have a3 : (x + 0 * 256) / 4096 % 2 = 0 := by omega
    have c3 : x / 4096 % 2 = 0 := by omega
    rw [a3, c3]
    clear a3 c3
    clear x0 x1
    exact ⟨by omega, by omega, by omega, by omega⟩
  · have a0 : (x + 1 * 256) / 2048 % 2 = 0 := by omega
    have c0 : x / 2048 % 2 = 0 := by omega
    rw [a0, c0]
    clear a0 c0
    have a1 : (x + 1 * 256) / 2 % 16 = x / 2 % 16 := by omega
    have c1 : 0 ≤ x / 2 % 16 ∧ x / 2 % 16 < 16 := by omega
    rw [a1]
    clear a1
    generalize x / 2 % 16 = y1 at *
    have a2 : (x + 1 * 256) / 32 % 64 = x / 32 % 64 + 8 := by omega
    have c2 : 0 ≤ x / 32 % 64 ∧ x / 32 % 64 < 8 := by omega
    rw [a2]
    clear a2
    generalize x / 32 % 64 = y2 at *
    have a3 : (x + 1 * 256) / 4096 % 2 = 0 := by omega
    have c3 : x / 4096 % 2 = 0 := by omega
    rw [a3, c3]
    clear a3 c3
    clear x0 x1
    exact ⟨by omega, by omega, by omega, by omega⟩
theorem stepB9 (im base : Int) (b0 : 0 ≤ base) (b1 : base < 33554432) (b2 : base / 128 % 32 = 0) : 0 ≤ layF 4 (im % 512) ∧ base + layF 4 (im % 512) < 4294967296 ∧ (base + layF 4 (im % 512)) / 536870912 % 2 = 0 ∧
    layF 4 (im % 1024) = layF 4 (im % 512) + bitT im 9 % 2 * 536870912 := by
  have e := mod_step im 9 512 1024 (by decide) (by decide)
  have hb := bitT_bd im 9
  have hx : 0 ≤ im % 512 ∧ im % 512 < 512 := by omega
  rw [e]
  generalize im % 512 = x at *
  generalize bitT im 9 = b at *
  have l1 : layF 4 x = x / 2048 % 2 * 128 + x / 2 % 16 * 256 + x / 32 % 64 * 33554432 + x / 4096 % 2 * 2147483648 := rfl
  have l2 : layF 4 (x + b * 512) = (x + b * 512) / 2048 % 2 * 128 + (x + b * 512) / 2 % 16 * 256 + (x + b * 512) / 32 % 64 * 33554432 + (x + b * 512) / 4096 % 2 * 2147483648 := rfl
  rw [l1, l2]
  obtain ⟨x0, x1⟩ := hx
  rcases hb with rfl | rfl
  · have a0 : (x + 0 * 512) / 2048 % 2 = 0 := by omega
    have c0 : x / 2048 % 2 = 0 := by omega
    rw [a0, c0]
    clear a0 c0
    have a1 : (x + 0 * 512) / 2 % 16 = x / 2 % 16 := by omega
    have c1 : 0 ≤ x / 2 % 16 ∧ x / 2 % 16 < 16 := by omega
    rw [a1]
    clear a1
    generalize x / 2 % 16 = y1 at *
    have a2 : (x + 0 * 512) / 32 % 64 = x / 32 % 64 + 0 := by omega
    have c2 : 0 ≤ x / 32 % 64 ∧ x / 32 % 64 < 16 := by omega
    rw [a2]
    clear a2
    generalize x / 32 % 64 = y2 at *
    have a3 : (x + 0 * 512) / 4096 % 2 = 0 := by omega
    have c3 : x / 4096 % 2 = 0 := by omega
    rw [a3, c3]
    clear a3 c3
    clear x0 x1
    exact ⟨by omega, by omega, by omega, by omega⟩
  · have a0 : (x + 1 * 512) / 2048 % 2 = 0 := by omega
    have c0 : x / 2048 % 2 = 0 := by omega
    rw [a0, c0]
    clear a0 c0
    have a1 : (x + 1 * 512) / 2 % 16 = x / 2 % 16 := by omega
    have c1 : 0 ≤ x / 2 % 16 ∧ x / 2 % 16 < 16 := by omega
    rw [a1]
    clear a1
    generalize x / 2 % 16 = y1 at *
    have a2 : (x + 1 * 512) / 32 % 64 = x / 32 % 64 + 16 := by omega
    have c2 : 0 ≤ x / 32 % 64 ∧ x / 32 % 64 < 16 := by omega
    rw [a2]
    clear a2
    generalize x / 32 % 64 = y2 at *
    have a3 : (x + 1 * 512) / 4096 % 2 = 0 := by omega
    have c3 : x / 4096 % 2 = 0 := by omega
    rw [a3, c3]
    clear a3 c3
    clear x0 x1
    exact ⟨by omega, by omega, by omega, by omega⟩
theorem stepB10 (im base : Int) (b0 : 0 ≤ base) (b1 : base < 33554432) (b2 : base / 128 % 32 = 0) : 0 ≤ layF 4 (im % 1024) ∧ base + layF 4 (im % 1024) < 4294967296 ∧ (base + layF 4 (im % 1024)) / 1073741824 % 2 = 0 ∧
    layF 4 (im % 2048) = layF 4 (im % 1024) + bitT im 10 % 2 * 1073741824 := by
  have e := mod_step im 10 1024 2048 (by decide) (by decide)
  have hb := bitT_bd im 10
  have hx : 0 ≤ im % 1024 ∧ im % 1024 < 1024 := by omega
  rw [e]
  generalize im % 1024 = x at *
  generalize bitT im 10 = b at *
  have l1 : layF 4 x = x / 2048 % 2 * 128 + x / 2 % 16 * 256 + x / 32 % 64 * 33554432 + x / 4096 % 2 * 2147483648 := rfl
  have l2 : layF 4 (x + b * 1024) = (x + b * 1024) / 2048 % 2 * 128 + (x + b * 1024) / 2 % 16 * 256 + (x + b * 1024) / 32 % 64 * 33554432 + (x + b * 1024) / 4096 % 2 * 2147483648 := rfl
  rw [l1, l2]
  obtain ⟨x0, x1⟩ := hx
  rcases hb with rfl | rfl
  · have a0 : (x + 0 * 1024) / 2048 % 2 = 0 := by omega
    have c0 : x / 2048 % 2 = 0 := by omega
    rw [a0, c0]
    clear a0 c0
    have a1 : (x + 0 * 1024) / 2 % 16 = x / 2 % 16 := by omega
    have c1 : 0 ≤ x / 2 % 16 ∧ x / 2 % 16 < 16 := by omega
    rw [a1]
    clear a1
    generalize x / 2 % 16 = y1 at *
    have a2 : (x + 0 * 1024) / 32 % 64 = x / 32 % 64 + 0 := by omega
    have c2 : 0 ≤ x / 32 % 64 ∧ x / 32 % 64 < 32 := by omega
    rw [a2]
    clear a2
    generalize x / 32 % 64 = y2 at *
    have a3 : (x + 0 * 1024) / 4096 % 2 = 0 := by omega
    have c3 : x / 4096 % 2 = 0 := by omega
    rw [a3, c3]
    clear a3 c3
    clear x0 x1
    exact ⟨by omega, by omega, by omega, by omega⟩
  · have a0 : (x + 1 * 1024) / 2048 % 2 = 0 := by omega
    have c0 : x / 2048 % 2 = 0 := by omega
    rw [a0, c0]
    clear a0 c0
    have a1 : (x + 1 * 1024) / 2 % 16 = x / 2 % 16 := by omega
    have c1 : 0 ≤ x / 2 % 16 ∧ x / 2 % 16 < 16 := by omega
    rw [a1]
    clear a1
    generalize x / 2 % 16 = y1 at *
    have a2 : (x + 1 * 1024) / 32 % 64 = x / 32 % 64 + 32 := by omega
    have c2 : 0 ≤ x / 32 % 64 ∧ x / 32 % 64 < 32 := by omega
    rw [a2]
    clear a2
    generalize x / 32 % 64 = y2 at *
    have a3 : (x + 1 * 1024) / 4096 % 2 = 0 := by omega
    have c3 : x / 4096 % 2 = 0 := by omega
    rw [a3, c3]
    clear a3 c3
    clear x0 x1
    exact ⟨by omega, by omega, by omega, by omega⟩
theorem stepB11 (im base : Int) (b0 : 0 ≤ base) (b1 : base < 33554432) (b2 : base / 128 % 32 = 0) : 0 ≤ layF 4 (im % 2048) ∧ base + layF 4 (im % 2048) < 4294967296 ∧ (base + layF 4 (im % 2048)) / 128 % 2 = 0 ∧
    layF 4 (im % 4096) = layF 4 (im % 2048) + bitT im 11 % 2 * 128 := by
  have e := mod_step im 11 2048 4096 (by decide) (by decide)
  have hb := bitT_bd im 11
  have hx : 0 ≤ im % 2048 ∧ im % 2048 < 2048 := by omega
  rw [e]
  generalize im % 2048 = x at *
  generalize bitT im 11 = b at *
  have l1 : layF 4 x = x / 2048 % 2 * 128 + x / 2 % 16 * 256 + x / 32 % 64 * 33554432 + x / 4096 % 2 * 2147483648 := rfl
  have l2 : layF 4 (x + b * 2048) = (x + b * 2048) / 2048 % 2 * 128 + (x + b * 2048) / 2 % 16 * 256 + (x + b * 2048) / 32 % 64 * 33554432 + (x + b * 2048) / 4096 % 2 * 2147483648 := rfl
  rw [l1, l2]
  obtain ⟨x0, x1⟩ := hx
  rcases hb with rfl | rfl
  · have a0 : (x + 0 * 2048) / 2048 % 2 = 0 := by omega
    have c0 : x / 2048 % 2 = 0 := by omega
    rw [a0, c0]
    clear a0 c0
    have a1 : (x + 0 * 2048) / 2 % 16 = x / 2 % 16 := by omega
    have c1 : 0 ≤ x / 2 % 16 ∧ x / 2 % 16 < 16 := by omega
    rw [a1]
    clear a1
    generalize x / 2 % 16 = y1 at *
    have a2 : (x + 0 * 2048) / 32 % 64 = x / 32 % 64 := by omega
    have c2 : 0 ≤ x / 32 % 64 ∧ x / 32 % 64 < 64 := by omega
    rw [a2]
    clear a2
    generalize x / 32 % 64 = y2 at *
    have a3 : (x + 0 * 2048) / 4096 % 2 = 0 := by omega
    have c3 : x / 4096 % 2 = 0 := by omega
    rw [a3, c3]
    clear a3 c3
    clear x0 x1
    exact ⟨by omega, by omega, by omega, by omega⟩
  · have a0 : (x + 1 * 2048) / 2048 % 2 = 1 := by omega
    have c0 : x / 2048 % 2 = 0 := by omega
    rw [a0, c0]
    clear a0 c0
    have a1 : (x + 1 * 2048) / 2 % 16 = x / 2 % 16 := by omega
    have c1 : 0 ≤ x / 2 % 16 ∧ x / 2 % 16 < 16 := by omega
    rw [a1]
    clear a1
    generalize x / 2 % 16 = y1 at *
    have a2 : (x + 1 * 2048) / 32 % 64 = x / 32 % 64 := by omega
    have c2 : 0 ≤ x / 32 % 64 ∧ x / 32 % 64 < 64 := by omega
    rw [a2]
    clear a2
    generalize x / 32 % 64 = y2 at *
    have a3 : (x + 1 * 2048) / 4096 % 2 = 0 := by omega
    have c3 : x / 4096 % 2 = 0 := by omega
    rw [a3, c3]
    clear a3 c3
    clear x0 x1
    exact ⟨by omega, by omega, by omega, by omega⟩
theorem stepB12 (im base : Int) (b0 : 0 ≤ base) (b1 : base < 33554432) (b2 : base / 128 % 32 = 0) : 0 ≤ layF 4 (im % 4096) ∧ base + layF 4 (im % 4096) < 4294967296 ∧ (base + layF 4 (im % 4096)) / 2147483648 % 2 = 0 ∧
    layF 4 (im % 8192) = layF 4 (im % 4096) + bitT im 12 % 2 * 2147483648 := by
  have e := mod_step im 12 4096 8192 (by decide) (by decide)
  have hb := bitT_bd im 12
  have hx : 0 ≤ im % 4096 ∧ im % 4096 < 4096 := by omega
  rw [e]
  generalize im % 4096 = x at *
  generalize bitT im 12 = b at *
  have l1 : layF 4 x = x / 2048 % 2 * 128 + x / 2 % 16 * 256 + x / 32 % 64 * 33554432 + x / 4096 % 2 * 2147483648 := rfl
  have l2 : layF 4 (x + b * 4096) = (x + b * 4096) / 2048 % 2 * 128 + (x + b * 4096) / 2 % 16 * 256 + (x + b * 4096) / 32 % 64 * 33554432 + (x + b * 4096) / 4096 % 2 * 2147483648 := rfl
  rw [l1, l2]
  obtain ⟨x0, x1⟩ := hx
  rcases hb with rfl | rfl
  · have a0 : (x + 0 * 4096) / 2048 % 2 = x / 2048 % 2 := by omega
    have c0 : 0 ≤ x / 2048 % 2 ∧ x / 2048 % 2 < 2 := by omega
    rw [a0]
    clear a0
    generalize x / 2048 % 2 = y0 at *
    have a1 : (x + 0 * 4096) / 2 % 16 = x / 2 % 16 := by omega
    have c1 : 0 ≤ x / 2 % 16 ∧ x / 2 % 16 < 16 := by omega
    rw [a1]
    clear a1
    generalize x / 2 % 16 = y1 at *
    have a2 : (x + 0 * 4096) / 32 % 64 = x / 32 % 64 := by omega
    have c2 : 0 ≤ x / 32 % 64 ∧ x / 32 % 64 < 64 := by omega
    rw [a2]
    clear a2
    generalize x / 32 % 64 = y2 at *
    have a3 : (x + 0 * 4096) / 4096 % 2 = 0 := by omega
    have c3 : x / 4096 % 2 = 0 := by omega
    rw [a3, c3]
    clear a3 c3
    clear x0 x1
    exact ⟨by omega, by omega, by omega, by omega⟩
  · have a0 : (x + 1 * 4096) / 2048 % 2 = x / 2048 % 2 := by omega
    have c0 : 0 ≤ x / 2048 % 2 ∧ x / 2048 % 2 < 2 := by omega
    rw [a0]
    clear a0
    generalize x / 2048 % 2 = y0 at *
    have a1 : (x + 1 * 4096) / 2 % 16 = x / 2 % 16 := by omega
    have c1 : 0 ≤ x / 2 % 16 ∧ x / 2 % 16 < 16 := by omega
    rw [a1]
    clear a1
    generalize x / 2 % 16 = y1 at *
    have a2 : (x + 1 * 4096) / 32 % 64 = x / 32 % 64 := by omega
    have c2 : 0 ≤ x / 32 % 64 ∧ x / 32 % 64 < 64 := by omega
    rw [a2]
    clear a2
    generalize x / 32 % 64 = y2 at *
    have a3 : (x + 1 * 4096) / 4096 % 2 = 1 := by omega
    have c3 : x / 4096 % 2 = 0 := by omega
    rw [a3, c3]
    clear a3 c3
    clear x0 x1
    exact ⟨by omega, by omega, by omega, by omega⟩
def atB (k : Nat) : Nat := if k = 12 then 31 else if k = 11 then 7 else if 4 < k then 20 + k else 7 + k
theorem stepB (im base : Int) (k : Nat) (b0 : 0 ≤ base) (b1 : base < 33554432) (b2 : base / 128 % 32 = 0) (h0 : 1 ≤ k) (h1 : k ≤ 12) : 0 ≤ layF 4 (im % 2 ^ k) ∧ base + layF 4 (im % 2 ^ k) < 4294967296 ∧ (base + layF 4 (im % 2 ^ k)) / 2 ^ atB k % 2 ^ 1 = 0 ∧
    layF 4 (im % 2 ^ (k + 1)) = layF 4 (im % 2 ^ k) + bitT im k % 2 ^ 1 * 2 ^ atB k := by
  rcases (show k = 1 ∨ k = 2 ∨ k = 3 ∨ k = 4 ∨ k = 5 ∨ k = 6 ∨ k = 7 ∨ k = 8 ∨ k = 9 ∨ k = 10 ∨ k = 11 ∨ k = 12 by omega) with rfl | rfl | rfl | rfl | rfl | rfl | rfl | rfl | rfl | rfl | rfl | rfl
  · exact stepB1 im base b0 b1 b2
  · exact stepB2 im base b0 b1 b2
  · exact stepB3 im base b0 b1 b2
  · exact stepB4 im base b0 b1 b2
  · exact stepB5 im base b0 b1 b2
  · exact stepB6 im base b0 b1 b2
  · exact stepB7 im base b0 b1 b2
  · exact stepB8 im base b0 b1 b2
  · exact stepB9 im base b0 b1 b2
  · exact stepB10 im base b0 b1 b2
  · exact stepB11 im base b0 b1 b2
  · exact stepB12 im base b0 b1 b2
theorem fullB (im : Int) : layF 4 (im % 2 ^ 13) = layF 4 im := by
  have l1 : layF 4 im = im / 2048 % 2 * 128 + im / 2 % 16 * 256 + im / 32 % 64 * 33554432 + im / 4096 % 2 * 2147483648 := rfl
  have l2 : layF 4 (im % 2 ^ 13) = (im % 8192) / 2048 % 2 * 128 + (im % 8192) / 2 % 16 * 256 + (im % 8192) / 32 % 64 * 33554432 + (im % 8192) / 4096 % 2 * 2147483648 := rfl
  rw [l1, l2]
  omega
theorem stepS5 (im base : Int) (b0 : 0 ≤ base) (b1 : base < 33554432) (b2 : base / 128 % 32 = 0) : 0 ≤ layF 5 (im % 32) ∧ base + layF 5 (im % 32) < 4294967296 ∧ (base + layF 5 (im % 32)) / 33554432 % 2 = 0 ∧
    layF 5 (im % 64) = layF 5 (im % 32) + bitT im 5 % 2 * 33554432 := by
  have e := mod_step im 5 32 64 (by decide) (by decide)
  have hb := bitT_bd im 5
  have hx : 0 ≤ im % 32 ∧ im % 32 < 32 := by omega
  rw [e]
  generalize im % 32 = x at *
  generalize bitT im 5 = b at *
  have l1 : layF 5 x = x % 32 * 128 + x / 32 % 128 * 33554432 := rfl
  have l2 : layF 5 (x + b * 32) = (x + b * 32) % 32 * 128 + (x + b * 32) / 32 % 128 * 33554432 := rfl
  rw [l1, l2]
  obtain ⟨x0, x1⟩ := hx
  rcases hb with rfl | rfl
  · have a0 : (x + 0 * 32) % 32 = x % 32 := by omega
    have c0 : 0 ≤ x % 32 ∧ x % 32 < 32 := by omega
    rw [a0]
    clear a0
    generalize x % 32 = y0 at *
    have a1 : (x + 0 * 32) / 32 % 128 = 0 := by omega
    have c1 : x / 32 % 128 = 0 := by omega
    rw [a1, c1]
    clear a1 c1
    clear x0 x1
    exact ⟨by omega, by omega, by omega, by omega⟩
  · have a0 : (x + 1 * 32) % 32 = x % 32 := by omega
    have c0 : 0 ≤ x % 32 ∧ x % 32 < 32 := by omega
    rw [a0]
    clear a0
    generalize x % 32 = y0 at *
    have a1 : (x + 1 * 32) / 32 % 128 = 1 := by omega
    have c1 : x / 32 % 128 = 0 := by omega
    rw [a1, c1]
    clear a1 c1
    clear x0 x1
    exact ⟨by omega, by omega, by omega, by omega⟩
theorem stepS6 (im base : Int) (b0 : 0 ≤ base) (b1 : base < 33554432) (b2 : base / 128 % 32 = 0) : 0 ≤ layF 5 (im % 64) ∧ base + layF 5 (im % 64) < 4294967296 ∧ (base + layF 5 (im % 64)) / 67108864 % 2 = 0 ∧
    layF 5 (im % 128) = layF 5 (im % 64) + bitT im 6 % 2 * 67108864 := by
  have e := mod_step im 6 64 128 (by decide) (by decide)
  have hb := bitT_bd im 6
  have hx : 0 ≤ im % 64 ∧ im % 64 < 64 := by omega
  rw [e]
  generalize im % 64 = x at *
  generalize bitT im 6 = b at *
  have l1 : layF 5 x = x % 32 * 128 + x / 32 % 128 * 33554432 := rfl
  have l2 : layF 5 (x + b * 64) = (x + b * 64) % 32 * 128 + (x + b * 64) / 32 % 128 * 33554432 := rfl
  rw [l1, l2]
  obtain ⟨x0, x1⟩ := hx
  rcases hb with rfl | rfl
  · have a0 : (x + 0 * 64) % 32 = x % 32 := by omega
    have c0 : 0 ≤ x % 32 ∧ x % 32 < 32 := by omega
    rw [a0]
    clear a0
    generalize x % 32 = y0 at *
    have a1 : (x + 0 * 64) / 32 % 128 = x / 32 % 128 + 0 := by omega
    have c1 : 0 ≤ x / 32 % 128 ∧ x / 32 % 128 < 2 := by omega
    rw [a1]
    clear a1
    generalize x / 32 % 128 = y1 at *
    clear x0 x1
    exact ⟨by omega, by omega, by omega, by omega⟩
  · have a0 : (x + 1 * 64) % 32 = x % 32 := by omega
    have c0 : 0 ≤ x % 32 ∧ x % 32 < 32 := by omega
    rw [a0]
    clear a0
    generalize x % 32 = y0 at *
    have a1 : (x + 1 * 64) / 32 % 128 = x / 32 % 128 + 2 := by omega
    have c1 : 0 ≤ x / 32 % 128 ∧ x / 32 % 128 < 2 := by omega
    rw [a1]
    clear a1
    generalize x / 32 % 128 = y1 at *
    clear x0 x1
    exact ⟨by omega, by omega, by omega, by omega⟩
theorem stepS7 (im base : Int) (b0 : 0 ≤ base) (b1 : base < 33554432) (b2 : base / 128 % 32 = 0) : 0 ≤ layF 5 (im % 128) ∧ base + layF 5 (im % 128) < 4294967296 ∧ (base + layF 5 (im % 128)) / 134217728 % 2 = 0 ∧
    layF 5 (im % 256) = layF 5 (im % 128) + bitT im 7 % 2 * 134217728 := by
  have e := mod_step im 7 128 256 (by decide) (by decide)
  have hb := bitT_bd im 7
  have hx : 0 ≤ im % 128 ∧ im % 128 < 128 := by omega
  rw [e]
  generalize im % 128 = x at *
  generalize bitT im 7 = b at *
  have l1 : layF 5 x = x % 32 * 128 + x / 32 % 128 * 33554432 := rfl
  have l2 : layF 5 (x + b * 128) = (x + b * 128) % 32 * 128 + (x + b * 128) / 32 % 128 * 33554432 := rfl
  rw [l1, l2]
  obtain ⟨x0, x1⟩ := hx
  rcases hb with rfl | rfl
  · have a0 : (x + 0 * 128) % 32 = x % 32 := by omega
    have c0 : 0 ≤ x % 32 ∧ x % 32 < 32 := by omega
    rw [a0]
    clear a0
    generalize x % 32 = y0 at *
    have a1 : (x + 0 * 128) / 32 % 128 = x / 32 % 128 + 0 := by omega
    have c1 : 0 ≤ x / 32 % 128 ∧ x / 32 % 128 < 4 := by omega
    rw [a1]
    clear a1
    generalize x / 32 % 128 = y1 at *
    clear x0 x1
    exact ⟨by omega, by omega, by omega, by omega⟩
  · have a0 : (x + 1 * 128) % 32 = x % 32 := by omega
    have c0 : 0 ≤ x % 32 ∧ x % 32 < 32 := by omega
    rw [a0]
    clear a0
    generalize x % 32 = y0 at *
    have a1 : (x + 1 * 128) / 32 % 128 = x / 32 % 128 + 4 := by omega
    have c1 : 0 ≤ x / 32 % 128 ∧ x / 32 % 128 < 4 := by omega
    rw [a1]
    clear a1
    generalize x / 32 % 128 = y1 at *
    clear x0 x1
    exact ⟨by omega, by omega, by omega, by omega⟩
theorem stepS8 (im base : Int) (b0 : 0 ≤ base) (b1 : base < 33554432) (b2 : base / 128 % 32 = 0) : 0 ≤ layF 5 (im % 256) ∧ base + layF 5 (im % 256) < 4294967296 ∧ (base + layF 5 (im % 256)) / 268435456 % 2 = 0 ∧
    layF 5 (im % 512) = layF 5 (im % 256) + bitT im 8 % 2 * 268435456 := by
  have e := mod_step im 8 256 512 (by decide) (by decide)
  have hb := bitT_bd im 8
  have hx : 0 ≤ im % 256 ∧ im % 256 < 256 := by omega
  rw [e]
  generalize im % 256 = x at *
  generalize bitT im 8 = b at *
  have l1 : layF 5 x = x % 32 * 128 + x / 32 % 128 * 33554432 := rfl
  have l2 : layF 5 (x + b * 256) = (x + b * 256) % 32 * 128 + (x + b * 256) / 32 % 128 * 33554432 := rfl
  rw [l1, l2]
  obtain ⟨x0, x1⟩ := hx
  rcases hb with rfl | rfl
  · have a0 : (x + 0 * 256) % 32 = x % 32 := by omega
    have c0 : 0 ≤ x % 32 ∧ x % 32 < 32 := by omega
    rw [a0]
    clear a0
    generalize x % 32 = y0 at *
    have a1 : (x + 0 * 256) / 32 % 128 = x / 32 % 128 + 0 := by omega
    have c1 : 0 ≤ x / 32 % 128 ∧ x / 32 % 128 < 8 := by omega
    rw [a1]
    clear a1
    generalize x / 32 % 128 = y1 at *
    clear x0 x1
    exact ⟨by omega, by omega, by omega, by omega⟩
  · have a0 : (x + 1 * 256) % 32 = x % 32 := by omega
    have c0 : 0 ≤ x % 32 ∧ x % 32 < 32 := by omega
    rw [a0]
    clear a0
    generalize x % 32 = y0 at *
    have a1 : (x + 1 * 256) / 32 % 128 = x / 32 % 128 + 8 := by omega
    have c1 : 0 ≤ x / 32 % 128 ∧ x / 32 % 128 < 8 := by omega
    rw [a1]
    clear a1
    generalize x / 32 % 128 = y1 at *
    clear x0 x1
    exact ⟨by omega, by omega, by omega, by omega⟩
theorem stepS9 (im base : Int) (b0 : 0 ≤ base) (b1 : base < 33554432) (b2 : base / 128 % 32 = 0) : 0 ≤ layF 5 (im % 512) ∧ base + layF 5 (im % 512) < 4294967296 ∧ (base + layF 5 (im % 512)) / 536870912 % 2 = 0 ∧
    layF 5 (im % 1024) = layF 5 (im % 512) + bitT im 9 % 2 * 536870912 := by
  have e := mod_step im 9 512 1024 (by decide) (by decide)
  have hb := bitT_bd im 9
  have hx : 0 ≤ im % 512 ∧ im % 512 < 512 := by omega
  rw [e]
  generalize im % 512 = x at *
  generalize bitT im 9 = b at *
  have l1 : layF 5 x = x % 32 * 128 + x / 32 % 128 * 33554432 := rfl
  have l2 : layF 5 (x + b * 512) = (x + b * 512) % 32 * 128 + (x + b * 512) / 32 % 128 * 33554432 := rfl
  rw [l1, l2]
  obtain ⟨x0, x1⟩ := hx
  rcases hb with rfl | rfl
  · have a0 : (x + 0 * 512) % 32 = x % 32 := by omega
    have c0 : 0 ≤ x % 32 ∧ x % 32 < 32 := by omega
    rw [a0]
    clear a0
    generalize x % 32 = y0 at *
    have a1 : (x + 0 * 512) / 32 % 128 = x / 32 % 128 + 0 := by omega
    have c1 : 0 ≤ x / 32 % 128 ∧ x / 32 % 128 < 16 := by omega
    rw [a1]
    clear a1
    generalize x / 32 % 128 = y1 at *
    clear x0 x1
    exact ⟨by omega, by omega, by omega, by omega⟩
  · have a0 : (x + 1 * 512) % 32 = x % 32 := by omega
    have c0 : 0 ≤ x % 32 ∧ x % 32 < 32 := by omega
    rw [a0]
    clear a0
    generalize x % 32 = y0 at *
    have a1 : (x + 1 * 512) / 32 % 128 = x / 32 % 128 + 16 := by omega
    have c1 : 0 ≤ x / 32 % 128 ∧ x / 32 % 128 < 16 := by omega
    rw [a1]
    clear a1
    generalize x / 32 % 128 = y1 at *
    clear x0 x1
    exact ⟨by omega, by omega, by omega, by omega⟩
theorem stepS10 (im base : Int) (b0 : 0 ≤ base) (b1 : base < 33554432) (b2 : base / 128 % 32 = 0) : 0 ≤ layF 5 (im % 1024) ∧ base + layF 5 (im % 1024) < 4294967296 ∧ (base + layF 5 (im % 1024)) / 1073741824 % 2 = 0 ∧
    layF 5 (im % 2048) = layF 5 (im % 1024) + bitT im 10 % 2 * 1073741824 := by
  have e := mod_step im 10 1024 2048 (by decide) (by decide)
  have hb := bitT_bd im 10
  have hx : 0 ≤ im % 1024 ∧ im % 1024 < 1024 := by omega
  rw [e]
  generalize im % 1024 = x at *
  generalize bitT im 10 = b at *
  have l1 : layF 5 x = x % 32 * 128 + x / 32 % 128 * 33554432 := rfl
  have l2 : layF 5 (x + b * 1024) = (x + b * 1024) % 32 * 128 + (x + b * 1024) / 32 % 128 * 33554432 := rfl
  rw [l1, l2]
  obtain ⟨x0, x1⟩ := hx
  rcases hb with rfl | rfl
  · have a0 : (x + 0 * 1024) % 32 = x % 32 := by omega
    have c0 : 0 ≤ x % 32 ∧ x % 32 < 32 := by omega
    rw [a0]
    clear a0
    generalize x % 32 = y0 at *
    have a1 : (x + 0 * 1024) / 32 % 128 = x / 32 % 128 + 0 := by omega
    have c1 : 0 ≤ x / 32 % 128 ∧ x / 32 % 128 < 32 := by omega
    rw [a1]
    clear a1
    generalize x / 32 % 128 = y1 at *
    clear x0 x1
    exact ⟨by omega, by omega, by omega, by omega⟩
  · have a0 : (x + 1 * 1024) % 32 = x % 32 := by omega
    have c0 : 0 ≤ x % 32 ∧ x % 32 < 32 := by omega
    rw [a0]
    clear a0
    generalize x % 32 = y0 at *
    have a1 : (x + 1 * 1024) / 32 % 128 = x / 32 % 128 + 32 := by omega
    have c1 : 0 ≤ x / 32 % 128 ∧ x / 32 % 128 < 32 := by omega
    rw [a1]
    clear a1
    generalize x / 32 % 128 = y1 at *
    clear x0 x1
    exact ⟨by omega, by omega, by omega, by omega⟩
theorem stepS11 (im base : Int) (b0 : 0 ≤ base) (b1 : base < 33554432) (b2 : base / 128 % 32 = 0) : 0 ≤ layF 5 (im % 2048) ∧ base + layF 5 (im % 2048) < 4294967296 ∧ (base + layF 5 (im % 2048)) / 2147483648 % 2 = 0 ∧
    layF 5 (im % 4096) = layF 5 (im % 2048) + bitT im 11 % 2 * 2147483648 := by
  have e := mod_step im 11 2048 4096 (by decide) (by decide)
  have hb := bitT_bd im 11
  have hx : 0 ≤ im % 2048 ∧ im % 2048 < 2048 := by omega
  rw [e]
  generalize im % 2048 = x at *
  generalize bitT im 11 = b at *
  have l1 : layF 5 x = x % 32 * 128 + x / 32 % 128 * 33554432 := rfl
  have l2 : layF 5 (x + b * 2048) = (x + b * 2048) % 32 * 128 + (x + b * 2048) / 32 % 128 * 33554432 := rfl
  rw [l1, l2]
  obtain ⟨x0, x1⟩ := hx
  rcases hb with rfl | rfl
  · have a0 : (x + 0 * 2048) % 32 = x % 32 := by omega
    have c0 : 0 ≤ x % 32 ∧ x % 32 < 32 := by omega
    rw [a0]
    clear a0
    generalize x % 32 = y0 at *
    have a1 : (x + 0 * 2048) / 32 % 128 = x / 32 % 128 + 0 := by omega
    have c1 : 0 ≤ x / 32 % 128 ∧ x / 32 % 128 < 64 := by omega
    rw [a1]
    clear a1
    generalize x / 32 % 128 = y1 at *
    clear x0 x1
    exact ⟨by omega, by omega, by omega, by omega⟩
  · have a0 : (x + 1 * 2048) % 32 = x % 32 := by omega
    have c0 : 0 ≤ x % 32 ∧ x % 32 < 32 := by omega
    rw [a0]
    clear a0
    generalize x % 32 = y0 at *
    have a1 : (x + 1 * 2048) / 32 % 128 = x / 32 % 128 + 64 := by omega
    have c1 : 0 ≤ x / 32 % 128 ∧ x / 32 % 128 < 64 := by omega
    rw [a1]
    clear a1
    generalize x / 32 % 128 = y1 at *
    clear x0 x1
    exact ⟨by omega, by omega, by omega, by omega⟩
def atS (k : Nat) : Nat := 20 + k
theorem stepS (im base : Int) (k : Nat) (b0 : 0 ≤ base) (b1 : base < 33554432) (b2 : base / 128 % 32 = 0) (h0 : 5 ≤ k) (h1 : k ≤ 11) : 0 ≤ layF 5 (im % 2 ^ k) ∧ base + layF 5 (im % 2 ^ k) < 4294967296 ∧ (base + layF 5 (im % 2 ^ k)) / 2 ^ atS k % 2 ^ 1 = 0 ∧
    layF 5 (im % 2 ^ (k + 1)) = layF 5 (im % 2 ^ k) + bitT im k % 2 ^ 1 * 2 ^ atS k := by
  rcases (show k = 5 ∨ k = 6 ∨ k = 7 ∨ k = 8 ∨ k = 9 ∨ k = 10 ∨ k = 11 by omega) with rfl | rfl | rfl | rfl | rfl | rfl | rfl
  · exact stepS5 im base b0 b1 b2
  · exact stepS6 im base b0 b1 b2
  · exact stepS7 im base b0 b1 b2
  · exact stepS8 im base b0 b1 b2
  · exact stepS9 im base b0 b1 b2
  · exact stepS10 im base b0 b1 b2
  · exact stepS11 im base b0 b1 b2
theorem fullS (im : Int) : layF 5 (im % 2 ^ 12) = layF 5 im := by
  have l1 : layF 5 im = im % 32 * 128 + im / 32 % 128 * 33554432 := rfl
  have l2 : layF 5 (im % 2 ^ 12) = (im % 4096) % 32 * 128 + (im % 4096) / 32 % 128 * 33554432 := rfl
  rw [l1, l2]
  omega
theorem zeroJ (im : Int) : layF 2 (im % 2 ^ 1) = 0 := by
  have l2 : layF 2 (im % 2 ^ 1) = (im % 2) / 4096 % 256 * 4096 + (im % 2) / 2048 % 2 * 1048576 + (im % 2) / 2 % 1024 * 2097152 + (im % 2) / 1048576 % 2 * 2147483648 := rfl
  rw [l2]
  omega
theorem zeroB (im : Int) : layF 4 (im % 2 ^ 1) = 0 := by
  have l2 : layF 4 (im % 2 ^ 1) = (im % 2) / 2048 % 2 * 128 + (im % 2) / 2 % 16 * 256 + (im % 2) / 32 % 64 * 33554432 + (im % 2) / 4096 % 2 * 2147483648 := rfl
  rw [l2]
  omega
theorem zeroS (im : Int) : layF 5 (im % 2 ^ 5) = im % 32 * 128 := by
  have l2 : layF 5 (im % 2 ^ 5) = (im % 32) % 32 * 128 + (im % 32) / 32 % 128 * 33554432 := rfl
  rw [l2]
  omega
end Go.Proofs.YtelogjpjglohoaaGreatDoor

namespace Go.Proofs.YtelogjpjglohoaaGreatDoor
open Go.RowKit
set_option linter.unusedVariables false

theorem bit_any (v : Int) (j : Nat) (w : World) (hj : j ≤ 63) :
    Calls Tryz.prog 92 #[.int .i64 v, .int .i64 j] w fun e w' => e = .returned (.int .i64 (bitT v j)) ∧ w' = w := by
  have hu := wrap_u64 v
  have hb := bit_u64 v j (by omega)
  have hn : (0 : Int) ≤ (u64 v : Int) / 2 ^ j := Int.ediv_nonneg (by omega) (Int.le_of_lt (pow_pos j))
  rcases bitT_bd v j with h | h
  · have r1 : (u64 v : Int) / 2 ^ j % 2 = 0 := hb.trans h
    have r2 : ((u64 v : Int) / 2 ^ j).tmod 2 = 0 := by rw [Int.tmod_eq_emod_of_nonneg hn]; exact r1
    have H : Hid (bitT v j = 0) := h
    clear hb h hn
    go_enter Tryz.func92, Tryz.ntmps92
    go_wp2
    go_ret
    exact ⟨congrArg (fun x => Ending.returned (.int .i64 x)) H.out.symm, rfl⟩
  · have r1 : (u64 v : Int) / 2 ^ j % 2 = 1 := hb.trans h
    have r2 : ((u64 v : Int) / 2 ^ j).tmod 2 = 1 := by rw [Int.tmod_eq_emod_of_nonneg hn]; exact r1
    have H : Hid (bitT v j = 1) := h
    clear hb h hn
    go_enter Tryz.func92, Tryz.ntmps92
    go_wp2
    go_ret
    exact ⟨congrArg (fun x => Ending.returned (.int .i64 x)) H.out.symm, rfl⟩

set_option maxRecDepth 100000 in
set_option maxHeartbeats 1000000 in
theorem specSign0 (v : Int) (c : Nat) (w : World) (h0 : 1 ≤ c) (h1 : c ≤ 64) :
    Calls Tryz.prog 116 #[.int .i64 v, .int .i64 c] w fun e w' => e = .returned (.int .i64 (sgn v c)) ∧ w' = w := by
  go_enter Tryz.func116, Tryz.ntmps116
  go_wp2
  go_loop [5, 6] (fun x t => ∃ k o : Nat, k ≤ 64 ∧ t = .int .i64 ((k : Int) - 1) ∧ x = .int .u64 (o : Int) ∧ Hid (o = sbits v c / 2 ^ k)) (fun _ t => (intOf t + 1).toNat)
  case atStart => exact ⟨64, 0, Nat.le_refl _, rfl, rfl, (sbits_top v c).symm⟩
  case round =>
    obtain ⟨k, o, hk, rfl, rfl, ho⟩ := hrel
    by_cases hlt : 1 ≤ k
    · obtain ⟨j, rfl⟩ : ∃ j, k = j + 1 := ⟨k - 1, by omega⟩
      have hol : o ≤ 9223372036854775807 := by rw [ho.out]; exact sbits_half v c j
      have hst := sbits_step v c j h0 (by omega)
      rw [← ho.out] at hst
      have HST : Hid (((sbits v c / 2 ^ j : Nat) : Int) = 2 * (o : Int) + bitT v (min j (c - 1))) := hst
      clear hst ho
      have ej : ((j + 1 : Nat) : Int) - 1 = (j : Int) := by omega
      by_cases hjc : j ≤ c - 1
      · rw [Nat.min_eq_left hjc] at HST
        have hjc' : (j : Int) ≤ (c : Int) - 1 := by omega
        have hbd := bitT_bd v j
        go_wp2_with fail
        refine (bit_any v j _ (by omega)).mono ?_
        rintro e w2 ⟨rfl, rfl⟩
        generalize bitT v j = b at *
        obtain ⟨b, rfl⟩ := Int.eq_ofNat_of_zero_le (show 0 ≤ b by omega)
        have hb1 : b ≤ 1 := by omega
        clear hbd hjc hjc'
        go_wp2
        go_round
        case rel => exact ⟨j, 2 * o + b, by omega, rfl, by go_num, by have := HST.out; show _ = _; omega⟩
        case measure => simp [intOf]
      · rw [Nat.min_eq_right (by omega)] at HST
        obtain ⟨m, hm⟩ : ∃ m, m = c - 1 := ⟨_, rfl⟩
        rw [← hm] at HST hjc
        have em : (c : Int) - 1 = (m : Int) := by omega
        have hm63 : m ≤ 63 := by omega
        clear hm
        have hjc' : (m : Int) < (j : Int) := by omega
        have hbd := bitT_bd v m
        go_wp2_with fail
        refine (bit_any v m _ hm63).mono ?_
        rintro e w2 ⟨rfl, rfl⟩
        generalize bitT v m = b at *
        obtain ⟨b, rfl⟩ := Int.eq_ofNat_of_zero_le (show 0 ≤ b by omega)
        have hb1 : b ≤ 1 := by omega
        clear hbd hjc hjc'
        go_wp2
        go_round
        case rel => exact ⟨j, 2 * o + b, by omega, rfl, by go_num, by have := HST.out; show _ = _; omega⟩
        case measure => simp [intOf]
    · obtain rfl : k = 0 := by omega
      have ho' : o = sbits v c := by rw [ho.out]; simp
      have hz : IntKind.i64.wrap (o : Int) = sgn v c := by rw [ho']; exact sbits_back v c h0 h1
      clear ho ho'
      go_wp2
      go_ret
      exact ⟨rfl, rfl⟩

end Go.Proofs.YtelogjpjglohoaaGreatDoor
