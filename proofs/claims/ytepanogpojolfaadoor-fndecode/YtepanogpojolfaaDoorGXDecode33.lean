/- Which word is an instruction of which shape: plain (3). Which word is an instruction of which shape: plain (4). An instruction taken apart: words. A struct of five numbers in memory. What the taking apart leans on. -/
import Derived.Test.YtepanogpojolfaaDoorGXDecode20
import Derived.Test.YtepanogpojolfaaDoorGXDecode32
import Derived.Test.YtepanogpojolfaaDoorGXDecode18
import Derived.Deep.RegionHeld3
import Derived.WalkKit
import Derived.LoopTactic
namespace Go.Proofs.YtepanogpojolfaaDoor
set_option linter.unusedVariables false

set_option maxHeartbeats 1000000 in
theorem fix_hit (f c g h w : Int) (hs : shOK f c g h = true) (w0 : 0 ≤ w) (w1 : w < 4294967296) : bits .and .i64 w (fixB f) = fixW f c g h ↔ hitI f c g h w := by
  obtain ⟨f0, f1, k0, k1, g0, g1, h0, h1⟩ := sh_bounds hs
  obtain ⟨m1, m2, m3, m4, m5, m9⟩ := sh_more hs
  obtain ⟨n, rfl⟩ := Int.eq_ofNat_of_zero_le w0
  have hn : n < 4294967296 := by omega
  rcases (show f = 1 ∨ f = 2 ∨ f = 3 ∨ f = 4 ∨ f = 5 ∨ f = 6 ∨ f = 7 ∨ f = 8 ∨ f = 9 by omega) with rfl | rfl | rfl | rfl | rfl | rfl | rfl | rfl | rfl
  · obtain ⟨rfl, rfl⟩ := m1 rfl
    show bits .and .i64 (n : Int) 127 = c + 0 * 4096 + 0 * 33554432 ↔ (n : Int) % 128 = c
    rw [and_127 n hn]
    omega
  · obtain ⟨rfl, rfl⟩ := m2 rfl
    show bits .and .i64 (n : Int) 127 = c + 0 * 4096 + 0 * 33554432 ↔ (n : Int) % 128 = c
    rw [and_127 n hn]
    omega
  · obtain rfl := m3 rfl
    show bits .and .i64 (n : Int) 28799 = c + g * 4096 + 0 * 33554432 ↔ (n : Int) % 128 = c ∧ (n : Int) / 4096 % 8 = g
    rw [and_28799 n hn]
    omega
  · obtain rfl := m4 rfl
    show bits .and .i64 (n : Int) 28799 = c + g * 4096 + 0 * 33554432 ↔ (n : Int) % 128 = c ∧ (n : Int) / 4096 % 8 = g
    rw [and_28799 n hn]
    omega
  · obtain rfl := m5 rfl
    show bits .and .i64 (n : Int) 28799 = c + g * 4096 + 0 * 33554432 ↔ (n : Int) % 128 = c ∧ (n : Int) / 4096 % 8 = g
    rw [and_28799 n hn]
    omega
  · show bits .and .i64 (n : Int) 4227887231 = c + g * 4096 + h / 2 * 67108864 ↔ (n : Int) % 128 = c ∧ (n : Int) / 4096 % 8 = g ∧ (n : Int) / 67108864 = h / 2
    rw [and_4227887231 n hn]
    have e : ((n % 128 + n / 4096 % 8 * 4096 + n / 67108864 * 67108864 : Nat) : Int) = (n : Int) % 128 + (n : Int) / 4096 % 8 * 4096 + (n : Int) / 67108864 * 67108864 := by omega
    rw [e]
    have p : 0 ≤ (n : Int) % 128 ∧ (n : Int) % 128 < 128 := by omega
    have q : 0 ≤ (n : Int) / 4096 % 8 ∧ (n : Int) / 4096 % 8 < 8 := by omega
    have r : 0 ≤ h / 2 := by omega
    generalize (n : Int) % 128 = x at *
    generalize (n : Int) / 4096 % 8 = y at *
    generalize (n : Int) / 67108864 = z at *
    generalize h / 2 = u at *
    omega
  · show bits .and .i64 (n : Int) 4261441663 = c + g * 4096 + h * 33554432 ↔ (n : Int) % 128 = c ∧ (n : Int) / 4096 % 8 = g ∧ (n : Int) / 33554432 = h
    rw [and_4261441663 n hn]
    have e : ((n % 128 + n / 4096 % 8 * 4096 + n / 33554432 * 33554432 : Nat) : Int) = (n : Int) % 128 + (n : Int) / 4096 % 8 * 4096 + (n : Int) / 33554432 * 33554432 := by omega
    rw [e]
    have p : 0 ≤ (n : Int) % 128 ∧ (n : Int) % 128 < 128 := by omega
    have q : 0 ≤ (n : Int) / 4096 % 8 ∧ (n : Int) / 4096 % 8 < 8 := by omega
    generalize (n : Int) % 128 = x at *
    generalize (n : Int) / 4096 % 8 = y at *
    generalize (n : Int) / 33554432 = z at *
    omega
  · show bits .and .i64 (n : Int) 4261441663 = c + g * 4096 + h * 33554432 ↔ (n : Int) % 128 = c ∧ (n : Int) / 4096 % 8 = g ∧ (n : Int) / 33554432 = h
    rw [and_4261441663 n hn]
    have e : ((n % 128 + n / 4096 % 8 * 4096 + n / 33554432 * 33554432 : Nat) : Int) = (n : Int) % 128 + (n : Int) / 4096 % 8 * 4096 + (n : Int) / 33554432 * 33554432 := by omega
    rw [e]
    have p : 0 ≤ (n : Int) % 128 ∧ (n : Int) % 128 < 128 := by omega
    have q : 0 ≤ (n : Int) / 4096 % 8 ∧ (n : Int) / 4096 % 8 < 8 := by omega
    generalize (n : Int) % 128 = x at *
    generalize (n : Int) / 4096 % 8 = y at *
    generalize (n : Int) / 33554432 = z at *
    omega
  · show bits .and .i64 (n : Int) 4294967295 = c + g * 4096 + h * 1048576 ↔ (n : Int) = c + g * 4096 + h * 1048576
    rw [and_all n hn]

theorem lay_take2 (a b c d : Int) (ha : 0 ≤ a ∧ a < 256) (hb : 0 ≤ b ∧ b < 2) (hc : 0 ≤ c ∧ c < 1024) (hd : 0 ≤ d ∧ d < 2) :
    layF 2 (sgn (a * 4096 + b * 2048 + c * 2 + d * 1048576) 21) = a * 4096 + b * 1048576 + c * 2097152 + d * 2147483648 := by
  rw [sgn_num _ 21 1048576 2097152 (by decide) (by decide)]
  have e : (a * 4096 + b * 2048 + c * 2 + d * 1048576 + 1048576) % 2097152 - 1048576 = a * 4096 + b * 2048 + c * 2 - d * 1048576 := by
    rcases (show d = 0 ∨ d = 1 by omega) with rfl | rfl <;> omega
  rw [e]
  generalize hv : a * 4096 + b * 2048 + c * 2 - d * 1048576 = v
  show v / 4096 % 256 * 4096 + v / 2048 % 2 * 1048576 + v / 2 % 1024 * 2097152 + v / 1048576 % 2 * 2147483648 = _
  have e1 : v / 4096 = a - 256 * d := by omega
  have e2 : v / 2048 = a * 2 + b - 512 * d := by omega
  have e3 : v / 2 = a * 2048 + b * 1024 + c - 524288 * d := by omega
  have e4 : v / 1048576 = -d := by omega
  rw [e1, e2, e3, e4]
  have p1 : (a - 256 * d) % 256 = a := by omega
  have p2 : (a * 2 + b - 512 * d) % 2 = b := by omega
  have p3 : (a * 2048 + b * 1024 + c - 524288 * d) % 1024 = c := by omega
  have p4 : (-d) % 2 = d := by omega
  rw [p1, p2, p3, p4]
theorem lay_take4 (a b c d : Int) (ha : 0 ≤ a ∧ a < 2) (hb : 0 ≤ b ∧ b < 16) (hc : 0 ≤ c ∧ c < 64) (hd : 0 ≤ d ∧ d < 2) :
    layF 4 (sgn (a * 2048 + b * 2 + c * 32 + d * 4096) 13) = a * 128 + b * 256 + c * 33554432 + d * 2147483648 := by
  rw [sgn_num _ 13 4096 8192 (by decide) (by decide)]
  have e : (a * 2048 + b * 2 + c * 32 + d * 4096 + 4096) % 8192 - 4096 = a * 2048 + b * 2 + c * 32 - d * 4096 := by
    rcases (show d = 0 ∨ d = 1 by omega) with rfl | rfl <;> omega
  rw [e]
  generalize hv : a * 2048 + b * 2 + c * 32 - d * 4096 = v
  show v / 2048 % 2 * 128 + v / 2 % 16 * 256 + v / 32 % 64 * 33554432 + v / 4096 % 2 * 2147483648 = _
  have e1 : v / 2048 = a - 2 * d := by omega
  have e2 : v / 2 = a * 1024 + b + c * 16 - 2048 * d := by omega
  have e3 : v / 32 = a * 64 + c - 128 * d := by omega
  have e4 : v / 4096 = -d := by omega
  rw [e1, e2, e3, e4]
  have p1 : (a - 2 * d) % 2 = a := by omega
  have p2 : (a * 1024 + b + c * 16 - 2048 * d) % 16 = b := by omega
  have p3 : (a * 64 + c - 128 * d) % 64 = c := by omega
  have p4 : (-d) % 2 = d := by omega
  rw [p1, p2, p3, p4]
theorem lay_take5 (a c : Int) (ha : 0 ≤ a ∧ a < 32) (hc : 0 ≤ c ∧ c < 128) : layF 5 (sgn (a + c * 32) 12) = a * 128 + c * 33554432 := by
  rw [sgn_num _ 12 2048 4096 (by decide) (by decide)]
  generalize hv : (a + c * 32 + 2048) % 4096 - 2048 = v
  show v % 32 * 128 + v / 32 % 128 * 33554432 = _
  have p1 : v % 32 = a := by omega
  have p2 : v / 32 % 128 = c := by omega
  rw [p1, p2]
end Go.Proofs.YtepanogpojolfaaDoor

namespace Go.Proofs.YtepanogpojolfaaDoor
set_option linter.unusedVariables false

theorem chain (w : Int) (a b : Nat) (A B C : Int) (hA : A = 2 ^ a) (hB : B = 2 ^ b) (hC : C = 2 ^ (a + b)) : w / A = w / A % B + B * (w / C) := by
  have h := Int.emod_add_mul_ediv (w / A) B
  have e : w / A / B = w / C := by
    rw [hA, hB, hC, dd _ _ (Int.le_of_lt (pow_pos a)), ← Int.pow_add]
  rw [e] at h
  exact h.symm

theorem hit1 (c w : Int) (w0 : 0 ≤ w) (w1 : w < 4294967296) : (w % 128 = c ∧ encW 1 c 0 0 (w / 128 % 32) (0) (0) (takeF 1 w) = w) ↔ (w % 128 = c) := by
  have l : layF 1 (takeF 1 w) = w / 4096 % 1048576 * 4096 := by
    show sgn (w / 4096 % 1048576 * 4096) 32 / 4096 % 1048576 * 4096 = _
    rw [sgn_num _ 32 2147483648 4294967296 (by decide) (by decide)]
    omega
  have e : encW 1 c 0 0 (w / 128 % 32) (0) (0) (takeF 1 w) = c + 0 * 4096 + 0 * 33554432 + w / 128 % 32 * 128 + 0 * 32768 + 0 * 1048576 + (w / 4096 % 1048576 * 4096) := by
    rw [← l]
    rfl
  rw [e]
  clear e l
  have d0 : w = w % 128 + 128 * (w / 128) := by omega
  have p0 : 0 ≤ w % 128 ∧ w % 128 < 128 := by omega
  have d7 : w / 128 = w / 128 % 32 + 32 * (w / 4096) := chain w 7 5 128 32 4096 (by decide) (by decide) (by decide)
  have p7 : 0 ≤ w / 128 % 32 ∧ w / 128 % 32 < 32 := by omega
  have d12 : w / 4096 = w / 4096 % 1048576 := by omega
  have p12 : 0 ≤ w / 4096 % 1048576 ∧ w / 4096 % 1048576 < 1048576 := by omega
  generalize w % 128 = x0 at *
  generalize w / 128 % 32 = x7 at *
  generalize w / 4096 % 1048576 = x12 at *
  generalize w / 128 = q7 at *
  generalize w / 4096 = q12 at *
  omega
theorem hit2 (c w : Int) (w0 : 0 ≤ w) (w1 : w < 4294967296) : (w % 128 = c ∧ encW 2 c 0 0 (w / 128 % 32) (0) (0) (takeF 2 w) = w) ↔ (w % 128 = c) := by
  have l : layF 2 (takeF 2 w) = w / 4096 % 256 * 4096 + w / 1048576 % 2 * 1048576 + w / 2097152 % 1024 * 2097152 + w / 2147483648 % 2 * 2147483648 :=
    lay_take2 (w / 4096 % 256) (w / 1048576 % 2) (w / 2097152 % 1024) (w / 2147483648 % 2) (by omega) (by omega) (by omega) (by omega)
  have e : encW 2 c 0 0 (w / 128 % 32) (0) (0) (takeF 2 w) = c + 0 * 4096 + 0 * 33554432 + w / 128 % 32 * 128 + 0 * 32768 + 0 * 1048576 + (w / 4096 % 256 * 4096 + w / 1048576 % 2 * 1048576 + w / 2097152 % 1024 * 2097152 + w / 2147483648 % 2 * 2147483648) := by
    rw [← l]
    rfl
  rw [e]
  clear e l
  have d0 : w = w % 128 + 128 * (w / 128) := by omega
  have p0 : 0 ≤ w % 128 ∧ w % 128 < 128 := by omega
  have d7 : w / 128 = w / 128 % 32 + 32 * (w / 4096) := chain w 7 5 128 32 4096 (by decide) (by decide) (by decide)
  have p7 : 0 ≤ w / 128 % 32 ∧ w / 128 % 32 < 32 := by omega
  have d12 : w / 4096 = w / 4096 % 256 + 256 * (w / 1048576) := chain w 12 8 4096 256 1048576 (by decide) (by decide) (by decide)
  have p12 : 0 ≤ w / 4096 % 256 ∧ w / 4096 % 256 < 256 := by omega
  have d20 : w / 1048576 = w / 1048576 % 2 + 2 * (w / 2097152) := chain w 20 1 1048576 2 2097152 (by decide) (by decide) (by decide)
  have p20 : 0 ≤ w / 1048576 % 2 ∧ w / 1048576 % 2 < 2 := by omega
  have d21 : w / 2097152 = w / 2097152 % 1024 + 1024 * (w / 2147483648) := chain w 21 10 2097152 1024 2147483648 (by decide) (by decide) (by decide)
  have p21 : 0 ≤ w / 2097152 % 1024 ∧ w / 2097152 % 1024 < 1024 := by omega
  have d31 : w / 2147483648 = w / 2147483648 % 2 := by omega
  have p31 : 0 ≤ w / 2147483648 % 2 ∧ w / 2147483648 % 2 < 2 := by omega
  generalize w % 128 = x0 at *
  generalize w / 128 % 32 = x7 at *
  generalize w / 4096 % 256 = x12 at *
  generalize w / 1048576 % 2 = x20 at *
  generalize w / 2097152 % 1024 = x21 at *
  generalize w / 2147483648 % 2 = x31 at *
  generalize w / 128 = q7 at *
  generalize w / 4096 = q12 at *
  generalize w / 1048576 = q20 at *
  generalize w / 2097152 = q21 at *
  generalize w / 2147483648 = q31 at *
  omega
theorem hit3 (c g w : Int) (w0 : 0 ≤ w) (w1 : w < 4294967296) : (w % 128 = c ∧ w / 4096 % 8 = g ∧ encW 3 c g 0 (w / 128 % 32) (w / 32768 % 32) (0) (takeF 3 w) = w) ↔ (w % 128 = c ∧ w / 4096 % 8 = g) := by
  have l : layF 3 (takeF 3 w) = w / 1048576 % 4096 * 1048576 := by
    show sgn (w / 1048576 % 4096) 12 % 4096 * 1048576 = _
    rw [sgn_num _ 12 2048 4096 (by decide) (by decide)]
    omega
  have e : encW 3 c g 0 (w / 128 % 32) (w / 32768 % 32) (0) (takeF 3 w) = c + g * 4096 + 0 * 33554432 + w / 128 % 32 * 128 + w / 32768 % 32 * 32768 + 0 * 1048576 + (w / 1048576 % 4096 * 1048576) := by
    rw [← l]
    rfl
  rw [e]
  clear e l
  have d0 : w = w % 128 + 128 * (w / 128) := by omega
  have p0 : 0 ≤ w % 128 ∧ w % 128 < 128 := by omega
  have d7 : w / 128 = w / 128 % 32 + 32 * (w / 4096) := chain w 7 5 128 32 4096 (by decide) (by decide) (by decide)
  have p7 : 0 ≤ w / 128 % 32 ∧ w / 128 % 32 < 32 := by omega
  have d12 : w / 4096 = w / 4096 % 8 + 8 * (w / 32768) := chain w 12 3 4096 8 32768 (by decide) (by decide) (by decide)
  have p12 : 0 ≤ w / 4096 % 8 ∧ w / 4096 % 8 < 8 := by omega
  have d15 : w / 32768 = w / 32768 % 32 + 32 * (w / 1048576) := chain w 15 5 32768 32 1048576 (by decide) (by decide) (by decide)
  have p15 : 0 ≤ w / 32768 % 32 ∧ w / 32768 % 32 < 32 := by omega
  have d20 : w / 1048576 = w / 1048576 % 4096 := by omega
  have p20 : 0 ≤ w / 1048576 % 4096 ∧ w / 1048576 % 4096 < 4096 := by omega
  generalize w % 128 = x0 at *
  generalize w / 128 % 32 = x7 at *
  generalize w / 4096 % 8 = x12 at *
  generalize w / 32768 % 32 = x15 at *
  generalize w / 1048576 % 4096 = x20 at *
  generalize w / 128 = q7 at *
  generalize w / 4096 = q12 at *
  generalize w / 32768 = q15 at *
  generalize w / 1048576 = q20 at *
  omega
theorem hit4 (c g w : Int) (w0 : 0 ≤ w) (w1 : w < 4294967296) : (w % 128 = c ∧ w / 4096 % 8 = g ∧ encW 4 c g 0 (0) (w / 32768 % 32) (w / 1048576 % 32) (takeF 4 w) = w) ↔ (w % 128 = c ∧ w / 4096 % 8 = g) := by
  have l : layF 4 (takeF 4 w) = w / 128 % 2 * 128 + w / 256 % 16 * 256 + w / 33554432 % 64 * 33554432 + w / 2147483648 % 2 * 2147483648 :=
    lay_take4 (w / 128 % 2) (w / 256 % 16) (w / 33554432 % 64) (w / 2147483648 % 2) (by omega) (by omega) (by omega) (by omega)
  have e : encW 4 c g 0 (0) (w / 32768 % 32) (w / 1048576 % 32) (takeF 4 w) = c + g * 4096 + 0 * 33554432 + 0 * 128 + w / 32768 % 32 * 32768 + w / 1048576 % 32 * 1048576 + (w / 128 % 2 * 128 + w / 256 % 16 * 256 + w / 33554432 % 64 * 33554432 + w / 2147483648 % 2 * 2147483648) := by
    rw [← l]
    rfl
  rw [e]
  clear e l
  have d0 : w = w % 128 + 128 * (w / 128) := by omega
  have p0 : 0 ≤ w % 128 ∧ w % 128 < 128 := by omega
  have d7 : w / 128 = w / 128 % 2 + 2 * (w / 256) := chain w 7 1 128 2 256 (by decide) (by decide) (by decide)
  have p7 : 0 ≤ w / 128 % 2 ∧ w / 128 % 2 < 2 := by omega
  have d8 : w / 256 = w / 256 % 16 + 16 * (w / 4096) := chain w 8 4 256 16 4096 (by decide) (by decide) (by decide)
  have p8 : 0 ≤ w / 256 % 16 ∧ w / 256 % 16 < 16 := by omega
  have d12 : w / 4096 = w / 4096 % 8 + 8 * (w / 32768) := chain w 12 3 4096 8 32768 (by decide) (by decide) (by decide)
  have p12 : 0 ≤ w / 4096 % 8 ∧ w / 4096 % 8 < 8 := by omega
  have d15 : w / 32768 = w / 32768 % 32 + 32 * (w / 1048576) := chain w 15 5 32768 32 1048576 (by decide) (by decide) (by decide)
  have p15 : 0 ≤ w / 32768 % 32 ∧ w / 32768 % 32 < 32 := by omega
  have d20 : w / 1048576 = w / 1048576 % 32 + 32 * (w / 33554432) := chain w 20 5 1048576 32 33554432 (by decide) (by decide) (by decide)
  have p20 : 0 ≤ w / 1048576 % 32 ∧ w / 1048576 % 32 < 32 := by omega
  have d25 : w / 33554432 = w / 33554432 % 64 + 64 * (w / 2147483648) := chain w 25 6 33554432 64 2147483648 (by decide) (by decide) (by decide)
  have p25 : 0 ≤ w / 33554432 % 64 ∧ w / 33554432 % 64 < 64 := by omega
  have d31 : w / 2147483648 = w / 2147483648 % 2 := by omega
  have p31 : 0 ≤ w / 2147483648 % 2 ∧ w / 2147483648 % 2 < 2 := by omega
  generalize w % 128 = x0 at *
  generalize w / 128 % 2 = x7 at *
  generalize w / 256 % 16 = x8 at *
  generalize w / 4096 % 8 = x12 at *
  generalize w / 32768 % 32 = x15 at *
  generalize w / 1048576 % 32 = x20 at *
  generalize w / 33554432 % 64 = x25 at *
  generalize w / 2147483648 % 2 = x31 at *
  generalize w / 128 = q7 at *
  generalize w / 256 = q8 at *
  generalize w / 4096 = q12 at *
  generalize w / 32768 = q15 at *
  generalize w / 1048576 = q20 at *
  generalize w / 33554432 = q25 at *
  generalize w / 2147483648 = q31 at *
  omega
theorem hit5 (c g w : Int) (w0 : 0 ≤ w) (w1 : w < 4294967296) : (w % 128 = c ∧ w / 4096 % 8 = g ∧ encW 5 c g 0 (0) (w / 32768 % 32) (w / 1048576 % 32) (takeF 5 w) = w) ↔ (w % 128 = c ∧ w / 4096 % 8 = g) := by
  have l : layF 5 (takeF 5 w) = w / 128 % 32 * 128 + w / 33554432 % 128 * 33554432 := lay_take5 (w / 128 % 32) (w / 33554432 % 128) (by omega) (by omega)
  have e : encW 5 c g 0 (0) (w / 32768 % 32) (w / 1048576 % 32) (takeF 5 w) = c + g * 4096 + 0 * 33554432 + 0 * 128 + w / 32768 % 32 * 32768 + w / 1048576 % 32 * 1048576 + (w / 128 % 32 * 128 + w / 33554432 % 128 * 33554432) := by
    rw [← l]
    rfl
  rw [e]
  clear e l
  have d0 : w = w % 128 + 128 * (w / 128) := by omega
  have p0 : 0 ≤ w % 128 ∧ w % 128 < 128 := by omega
  have d7 : w / 128 = w / 128 % 32 + 32 * (w / 4096) := chain w 7 5 128 32 4096 (by decide) (by decide) (by decide)
  have p7 : 0 ≤ w / 128 % 32 ∧ w / 128 % 32 < 32 := by omega
  have d12 : w / 4096 = w / 4096 % 8 + 8 * (w / 32768) := chain w 12 3 4096 8 32768 (by decide) (by decide) (by decide)
  have p12 : 0 ≤ w / 4096 % 8 ∧ w / 4096 % 8 < 8 := by omega
  have d15 : w / 32768 = w / 32768 % 32 + 32 * (w / 1048576) := chain w 15 5 32768 32 1048576 (by decide) (by decide) (by decide)
  have p15 : 0 ≤ w / 32768 % 32 ∧ w / 32768 % 32 < 32 := by omega
  have d20 : w / 1048576 = w / 1048576 % 32 + 32 * (w / 33554432) := chain w 20 5 1048576 32 33554432 (by decide) (by decide) (by decide)
  have p20 : 0 ≤ w / 1048576 % 32 ∧ w / 1048576 % 32 < 32 := by omega
  have d25 : w / 33554432 = w / 33554432 % 128 := by omega
  have p25 : 0 ≤ w / 33554432 % 128 ∧ w / 33554432 % 128 < 128 := by omega
  generalize w % 128 = x0 at *
  generalize w / 128 % 32 = x7 at *
  generalize w / 4096 % 8 = x12 at *
  generalize w / 32768 % 32 = x15 at *
  generalize w / 1048576 % 32 = x20 at *
  generalize w / 33554432 % 128 = x25 at *
  generalize w / 128 = q7 at *
  generalize w / 4096 = q12 at *
  generalize w / 32768 = q15 at *
  generalize w / 1048576 = q20 at *
  generalize w / 33554432 = q25 at *
  omega
theorem hit6 (c g h w : Int) (w0 : 0 ≤ w) (w1 : w < 4294967296) (h0 : 0 ≤ h) (h1 : h < 64) : (w % 128 = c ∧ w / 4096 % 8 = g ∧ encW 6 c g h (w / 128 % 32) (w / 32768 % 32) (0) (takeF 6 w) = w) ↔ (w % 128 = c ∧ w / 4096 % 8 = g ∧ w / 67108864 = h / 2) := by
  have l : layF 6 (takeF 6 w) = w / 1048576 % 64 * 1048576 := by
    show w / 1048576 % 64 % 64 * 1048576 = _
    omega
  have e : encW 6 c g h (w / 128 % 32) (w / 32768 % 32) (0) (takeF 6 w) = c + g * 4096 + h / 2 * 67108864 + w / 128 % 32 * 128 + w / 32768 % 32 * 32768 + 0 * 1048576 + (w / 1048576 % 64 * 1048576) := by
    rw [← l]
    rfl
  rw [e]
  clear e l
  have ph : 0 ≤ h / 2 ∧ h / 2 < 32 := by omega
  generalize h / 2 = y at *
  have d0 : w = w % 128 + 128 * (w / 128) := by omega
  have p0 : 0 ≤ w % 128 ∧ w % 128 < 128 := by omega
  have d7 : w / 128 = w / 128 % 32 + 32 * (w / 4096) := chain w 7 5 128 32 4096 (by decide) (by decide) (by decide)
  have p7 : 0 ≤ w / 128 % 32 ∧ w / 128 % 32 < 32 := by omega
  have d12 : w / 4096 = w / 4096 % 8 + 8 * (w / 32768) := chain w 12 3 4096 8 32768 (by decide) (by decide) (by decide)
  have p12 : 0 ≤ w / 4096 % 8 ∧ w / 4096 % 8 < 8 := by omega
  have d15 : w / 32768 = w / 32768 % 32 + 32 * (w / 1048576) := chain w 15 5 32768 32 1048576 (by decide) (by decide) (by decide)
  have p15 : 0 ≤ w / 32768 % 32 ∧ w / 32768 % 32 < 32 := by omega
  have d20 : w / 1048576 = w / 1048576 % 64 + 64 * (w / 67108864) := chain w 20 6 1048576 64 67108864 (by decide) (by decide) (by decide)
  have p20 : 0 ≤ w / 1048576 % 64 ∧ w / 1048576 % 64 < 64 := by omega
  have d26 : w / 67108864 = w / 67108864 % 64 := by omega
  have p26 : 0 ≤ w / 67108864 % 64 ∧ w / 67108864 % 64 < 64 := by omega
  generalize w % 128 = x0 at *
  generalize w / 128 % 32 = x7 at *
  generalize w / 4096 % 8 = x12 at *
  generalize w / 32768 % 32 = x15 at *
  generalize w / 1048576 % 64 = x20 at *
  generalize w / 67108864 % 64 = x26 at *
  generalize w / 128 = q7 at *
  generalize w / 4096 = q12 at *
  generalize w / 32768 = q15 at *
  generalize w / 1048576 = q20 at *
  generalize w / 67108864 = q26 at *
  omega
theorem hit7 (c g h w : Int) (w0 : 0 ≤ w) (w1 : w < 4294967296) (h0 : 0 ≤ h) (h1 : h < 64) : (w % 128 = c ∧ w / 4096 % 8 = g ∧ encW 7 c g h (w / 128 % 32) (w / 32768 % 32) (0) (takeF 7 w) = w) ↔ (w % 128 = c ∧ w / 4096 % 8 = g ∧ w / 33554432 = h) := by
  have l : layF 7 (takeF 7 w) = w / 1048576 % 32 * 1048576 := by
    show w / 1048576 % 32 % 32 * 1048576 = _
    omega
  have e : encW 7 c g h (w / 128 % 32) (w / 32768 % 32) (0) (takeF 7 w) = c + g * 4096 + h * 33554432 + w / 128 % 32 * 128 + w / 32768 % 32 * 32768 + 0 * 1048576 + (w / 1048576 % 32 * 1048576) := by
    rw [← l]
    rfl
  rw [e]
  clear e l
  have d0 : w = w % 128 + 128 * (w / 128) := by omega
  have p0 : 0 ≤ w % 128 ∧ w % 128 < 128 := by omega
  have d7 : w / 128 = w / 128 % 32 + 32 * (w / 4096) := chain w 7 5 128 32 4096 (by decide) (by decide) (by decide)
  have p7 : 0 ≤ w / 128 % 32 ∧ w / 128 % 32 < 32 := by omega
  have d12 : w / 4096 = w / 4096 % 8 + 8 * (w / 32768) := chain w 12 3 4096 8 32768 (by decide) (by decide) (by decide)
  have p12 : 0 ≤ w / 4096 % 8 ∧ w / 4096 % 8 < 8 := by omega
  have d15 : w / 32768 = w / 32768 % 32 + 32 * (w / 1048576) := chain w 15 5 32768 32 1048576 (by decide) (by decide) (by decide)
  have p15 : 0 ≤ w / 32768 % 32 ∧ w / 32768 % 32 < 32 := by omega
  have d20 : w / 1048576 = w / 1048576 % 32 + 32 * (w / 33554432) := chain w 20 5 1048576 32 33554432 (by decide) (by decide) (by decide)
  have p20 : 0 ≤ w / 1048576 % 32 ∧ w / 1048576 % 32 < 32 := by omega
  have d25 : w / 33554432 = w / 33554432 % 128 := by omega
  have p25 : 0 ≤ w / 33554432 % 128 ∧ w / 33554432 % 128 < 128 := by omega
  generalize w % 128 = x0 at *
  generalize w / 128 % 32 = x7 at *
  generalize w / 4096 % 8 = x12 at *
  generalize w / 32768 % 32 = x15 at *
  generalize w / 1048576 % 32 = x20 at *
  generalize w / 33554432 % 128 = x25 at *
  generalize w / 128 = q7 at *
  generalize w / 4096 = q12 at *
  generalize w / 32768 = q15 at *
  generalize w / 1048576 = q20 at *
  generalize w / 33554432 = q25 at *
  omega
theorem hit8 (c g h w : Int) (w0 : 0 ≤ w) (w1 : w < 4294967296) (h0 : 0 ≤ h) (h1 : h < 64) : (w % 128 = c ∧ w / 4096 % 8 = g ∧ encW 8 c g h (w / 128 % 32) (w / 32768 % 32) (w / 1048576 % 32) (takeF 8 w) = w) ↔ (w % 128 = c ∧ w / 4096 % 8 = g ∧ w / 33554432 = h) := by
  have l : layF 8 (takeF 8 w) = 0 := rfl
  have e : encW 8 c g h (w / 128 % 32) (w / 32768 % 32) (w / 1048576 % 32) (takeF 8 w) = c + g * 4096 + h * 33554432 + w / 128 % 32 * 128 + w / 32768 % 32 * 32768 + w / 1048576 % 32 * 1048576 + (0) := by
    rw [← l]
    rfl
  rw [e]
  clear e l
  have d0 : w = w % 128 + 128 * (w / 128) := by omega
  have p0 : 0 ≤ w % 128 ∧ w % 128 < 128 := by omega
  have d7 : w / 128 = w / 128 % 32 + 32 * (w / 4096) := chain w 7 5 128 32 4096 (by decide) (by decide) (by decide)
  have p7 : 0 ≤ w / 128 % 32 ∧ w / 128 % 32 < 32 := by omega
  have d12 : w / 4096 = w / 4096 % 8 + 8 * (w / 32768) := chain w 12 3 4096 8 32768 (by decide) (by decide) (by decide)
  have p12 : 0 ≤ w / 4096 % 8 ∧ w / 4096 % 8 < 8 := by omega
  have d15 : w / 32768 = w / 32768 % 32 + 32 * (w / 1048576) := chain w 15 5 32768 32 1048576 (by decide) (by decide) (by decide)
  have p15 : 0 ≤ w / 32768 % 32 ∧ w / 32768 % 32 < 32 := by omega
  have d20 : w / 1048576 = w / 1048576 % 32 + 32 * (w / 33554432) := chain w 20 5 1048576 32 33554432 (by decide) (by decide) (by decide)
  have p20 : 0 ≤ w / 1048576 % 32 ∧ w / 1048576 % 32 < 32 := by omega
  have d25 : w / 33554432 = w / 33554432 % 128 := by omega
  have p25 : 0 ≤ w / 33554432 % 128 ∧ w / 33554432 % 128 < 128 := by omega
  generalize w % 128 = x0 at *
  generalize w / 128 % 32 = x7 at *
  generalize w / 4096 % 8 = x12 at *
  generalize w / 32768 % 32 = x15 at *
  generalize w / 1048576 % 32 = x20 at *
  generalize w / 33554432 % 128 = x25 at *
  generalize w / 128 = q7 at *
  generalize w / 4096 = q12 at *
  generalize w / 32768 = q15 at *
  generalize w / 1048576 = q20 at *
  generalize w / 33554432 = q25 at *
  omega
end Go.Proofs.YtepanogpojolfaaDoor

namespace Go.Proofs.YtepanogpojolfaaDoor
open Go.RowKit
set_option linter.unusedVariables false

def ToldIt (f : Int) (t : ByteArray) : Prop := ∀ w, Calls Tryd.prog 46 #[.int .i64 f] w fun e w' => e = .returned (.string t) ∧ w' = w
/-- What ruleOf and take answer of a form and a word. -/
def RuleIt (f : Int) (R : Value) : Prop := ∀ w, Calls Tryd.prog 37 #[.int .i64 f] w fun e w' => e = .returned R ∧ Below w.heap.size w w'
def TakeIt (R : Value) (v N : Int) : Prop := ∀ w, Calls Tryd.prog 84 #[R, .int .i64 v] w fun e w' => e = .returned (.int .i64 N) ∧ Below w.heap.size w w'
theorem ra100 (w : World) : Calls Tryd.prog 85 #[.int .u8 100] w fun e w' => e = .returned (.int .i64 7) ∧ w' = w := by
  go_enter Tryd.func85, Tryd.ntmps85
  go_wp2
  go_ret
  exact ⟨rfl, rfl⟩
theorem ra49 (w : World) : Calls Tryd.prog 85 #[.int .u8 49] w fun e w' => e = .returned (.int .i64 15) ∧ w' = w := by
  go_enter Tryd.func85, Tryd.ntmps85
  go_wp2
  go_ret
  exact ⟨rfl, rfl⟩
theorem ra50 (w : World) : Calls Tryd.prog 85 #[.int .u8 50] w fun e w' => e = .returned (.int .i64 20) ∧ w' = w := by
  go_enter Tryd.func85, Tryd.ntmps85
  go_wp2
  go_ret
  exact ⟨rfl, rfl⟩
end Go.Proofs.YtepanogpojolfaaDoor

namespace Go.Proofs.YtepanogpojolfaaDoor
open Go.RowKit
set_option linter.unusedVariables false

/-- Five numbers at block b, to be written. -/
structure Five (w : World) (b : Nat) (v0 v1 v2 v3 v4 : Int) : Prop where
  c0 : w.cell? ⟨b, 0, none⟩ = some (.int .i64 v0)
  c1 : w.cell? ⟨b, 1, none⟩ = some (.int .i64 v1)
  c2 : w.cell? ⟨b, 2, none⟩ = some (.int .i64 v2)
  c3 : w.cell? ⟨b, 3, none⟩ = some (.int .i64 v3)
  c4 : w.cell? ⟨b, 4, none⟩ = some (.int .i64 v4)
  f0 : w.frozen? ⟨b, 0, none⟩ = false
  f1 : w.frozen? ⟨b, 1, none⟩ = false
  f2 : w.frozen? ⟨b, 2, none⟩ = false
  f3 : w.frozen? ⟨b, 3, none⟩ = false
  f4 : w.frozen? ⟨b, 4, none⟩ = false
theorem Five.set0 {w : World} {b : Nat} {v0 v1 v2 v3 v4 : Int} (h : Five w b v0 v1 v2 v3 v4) (x : Int) : Five (w.setCell ⟨b, 0, none⟩ (.int .i64 x)) b x v1 v2 v3 v4 :=
  ⟨World.cell?_setCell_same _ _ _ h.c0, (World.cell?_setCell_other _ _ _ _ (by simp)).trans h.c1, (World.cell?_setCell_other _ _ _ _ (by simp)).trans h.c2, (World.cell?_setCell_other _ _ _ _ (by simp)).trans h.c3, (World.cell?_setCell_other _ _ _ _ (by simp)).trans h.c4,
   (World.frozen?_setCell _ _ _ _).trans h.f0, (World.frozen?_setCell _ _ _ _).trans h.f1, (World.frozen?_setCell _ _ _ _).trans h.f2, (World.frozen?_setCell _ _ _ _).trans h.f3, (World.frozen?_setCell _ _ _ _).trans h.f4⟩
theorem Five.oth0 {w : World} {b d : Nat} {v0 v1 v2 v3 v4 : Int} (h : Five w b v0 v1 v2 v3 v4) (hd : b ≠ d) (u : Value) : Five (w.setCell ⟨d, 0, none⟩ u) b v0 v1 v2 v3 v4 :=
  ⟨(World.cell?_setCell_other _ _ _ _ (by simp <;> omega)).trans h.c0, (World.cell?_setCell_other _ _ _ _ (by simp <;> omega)).trans h.c1, (World.cell?_setCell_other _ _ _ _ (by simp <;> omega)).trans h.c2, (World.cell?_setCell_other _ _ _ _ (by simp <;> omega)).trans h.c3, (World.cell?_setCell_other _ _ _ _ (by simp <;> omega)).trans h.c4,
   (World.frozen?_setCell _ _ _ _).trans h.f0, (World.frozen?_setCell _ _ _ _).trans h.f1, (World.frozen?_setCell _ _ _ _).trans h.f2, (World.frozen?_setCell _ _ _ _).trans h.f3, (World.frozen?_setCell _ _ _ _).trans h.f4⟩
theorem Five.set1 {w : World} {b : Nat} {v0 v1 v2 v3 v4 : Int} (h : Five w b v0 v1 v2 v3 v4) (x : Int) : Five (w.setCell ⟨b, 1, none⟩ (.int .i64 x)) b v0 x v2 v3 v4 :=
  ⟨(World.cell?_setCell_other _ _ _ _ (by simp)).trans h.c0, World.cell?_setCell_same _ _ _ h.c1, (World.cell?_setCell_other _ _ _ _ (by simp)).trans h.c2, (World.cell?_setCell_other _ _ _ _ (by simp)).trans h.c3, (World.cell?_setCell_other _ _ _ _ (by simp)).trans h.c4,
   (World.frozen?_setCell _ _ _ _).trans h.f0, (World.frozen?_setCell _ _ _ _).trans h.f1, (World.frozen?_setCell _ _ _ _).trans h.f2, (World.frozen?_setCell _ _ _ _).trans h.f3, (World.frozen?_setCell _ _ _ _).trans h.f4⟩
theorem Five.oth1 {w : World} {b d : Nat} {v0 v1 v2 v3 v4 : Int} (h : Five w b v0 v1 v2 v3 v4) (hd : b ≠ d) (u : Value) : Five (w.setCell ⟨d, 1, none⟩ u) b v0 v1 v2 v3 v4 :=
  ⟨(World.cell?_setCell_other _ _ _ _ (by simp <;> omega)).trans h.c0, (World.cell?_setCell_other _ _ _ _ (by simp <;> omega)).trans h.c1, (World.cell?_setCell_other _ _ _ _ (by simp <;> omega)).trans h.c2, (World.cell?_setCell_other _ _ _ _ (by simp <;> omega)).trans h.c3, (World.cell?_setCell_other _ _ _ _ (by simp <;> omega)).trans h.c4,
   (World.frozen?_setCell _ _ _ _).trans h.f0, (World.frozen?_setCell _ _ _ _).trans h.f1, (World.frozen?_setCell _ _ _ _).trans h.f2, (World.frozen?_setCell _ _ _ _).trans h.f3, (World.frozen?_setCell _ _ _ _).trans h.f4⟩
theorem Five.set2 {w : World} {b : Nat} {v0 v1 v2 v3 v4 : Int} (h : Five w b v0 v1 v2 v3 v4) (x : Int) : Five (w.setCell ⟨b, 2, none⟩ (.int .i64 x)) b v0 v1 x v3 v4 :=
  ⟨(World.cell?_setCell_other _ _ _ _ (by simp)).trans h.c0, (World.cell?_setCell_other _ _ _ _ (by simp)).trans h.c1, World.cell?_setCell_same _ _ _ h.c2, (World.cell?_setCell_other _ _ _ _ (by simp)).trans h.c3, (World.cell?_setCell_other _ _ _ _ (by simp)).trans h.c4,
   (World.frozen?_setCell _ _ _ _).trans h.f0, (World.frozen?_setCell _ _ _ _).trans h.f1, (World.frozen?_setCell _ _ _ _).trans h.f2, (World.frozen?_setCell _ _ _ _).trans h.f3, (World.frozen?_setCell _ _ _ _).trans h.f4⟩
theorem Five.oth2 {w : World} {b d : Nat} {v0 v1 v2 v3 v4 : Int} (h : Five w b v0 v1 v2 v3 v4) (hd : b ≠ d) (u : Value) : Five (w.setCell ⟨d, 2, none⟩ u) b v0 v1 v2 v3 v4 :=
  ⟨(World.cell?_setCell_other _ _ _ _ (by simp <;> omega)).trans h.c0, (World.cell?_setCell_other _ _ _ _ (by simp <;> omega)).trans h.c1, (World.cell?_setCell_other _ _ _ _ (by simp <;> omega)).trans h.c2, (World.cell?_setCell_other _ _ _ _ (by simp <;> omega)).trans h.c3, (World.cell?_setCell_other _ _ _ _ (by simp <;> omega)).trans h.c4,
   (World.frozen?_setCell _ _ _ _).trans h.f0, (World.frozen?_setCell _ _ _ _).trans h.f1, (World.frozen?_setCell _ _ _ _).trans h.f2, (World.frozen?_setCell _ _ _ _).trans h.f3, (World.frozen?_setCell _ _ _ _).trans h.f4⟩
theorem Five.set3 {w : World} {b : Nat} {v0 v1 v2 v3 v4 : Int} (h : Five w b v0 v1 v2 v3 v4) (x : Int) : Five (w.setCell ⟨b, 3, none⟩ (.int .i64 x)) b v0 v1 v2 x v4 :=
  ⟨(World.cell?_setCell_other _ _ _ _ (by simp)).trans h.c0, (World.cell?_setCell_other _ _ _ _ (by simp)).trans h.c1, (World.cell?_setCell_other _ _ _ _ (by simp)).trans h.c2, World.cell?_setCell_same _ _ _ h.c3, (World.cell?_setCell_other _ _ _ _ (by simp)).trans h.c4,
   (World.frozen?_setCell _ _ _ _).trans h.f0, (World.frozen?_setCell _ _ _ _).trans h.f1, (World.frozen?_setCell _ _ _ _).trans h.f2, (World.frozen?_setCell _ _ _ _).trans h.f3, (World.frozen?_setCell _ _ _ _).trans h.f4⟩
theorem Five.oth3 {w : World} {b d : Nat} {v0 v1 v2 v3 v4 : Int} (h : Five w b v0 v1 v2 v3 v4) (hd : b ≠ d) (u : Value) : Five (w.setCell ⟨d, 3, none⟩ u) b v0 v1 v2 v3 v4 :=
  ⟨(World.cell?_setCell_other _ _ _ _ (by simp <;> omega)).trans h.c0, (World.cell?_setCell_other _ _ _ _ (by simp <;> omega)).trans h.c1, (World.cell?_setCell_other _ _ _ _ (by simp <;> omega)).trans h.c2, (World.cell?_setCell_other _ _ _ _ (by simp <;> omega)).trans h.c3, (World.cell?_setCell_other _ _ _ _ (by simp <;> omega)).trans h.c4,
   (World.frozen?_setCell _ _ _ _).trans h.f0, (World.frozen?_setCell _ _ _ _).trans h.f1, (World.frozen?_setCell _ _ _ _).trans h.f2, (World.frozen?_setCell _ _ _ _).trans h.f3, (World.frozen?_setCell _ _ _ _).trans h.f4⟩
theorem Five.set4 {w : World} {b : Nat} {v0 v1 v2 v3 v4 : Int} (h : Five w b v0 v1 v2 v3 v4) (x : Int) : Five (w.setCell ⟨b, 4, none⟩ (.int .i64 x)) b v0 v1 v2 v3 x :=
  ⟨(World.cell?_setCell_other _ _ _ _ (by simp)).trans h.c0, (World.cell?_setCell_other _ _ _ _ (by simp)).trans h.c1, (World.cell?_setCell_other _ _ _ _ (by simp)).trans h.c2, (World.cell?_setCell_other _ _ _ _ (by simp)).trans h.c3, World.cell?_setCell_same _ _ _ h.c4,
   (World.frozen?_setCell _ _ _ _).trans h.f0, (World.frozen?_setCell _ _ _ _).trans h.f1, (World.frozen?_setCell _ _ _ _).trans h.f2, (World.frozen?_setCell _ _ _ _).trans h.f3, (World.frozen?_setCell _ _ _ _).trans h.f4⟩
theorem Five.oth4 {w : World} {b d : Nat} {v0 v1 v2 v3 v4 : Int} (h : Five w b v0 v1 v2 v3 v4) (hd : b ≠ d) (u : Value) : Five (w.setCell ⟨d, 4, none⟩ u) b v0 v1 v2 v3 v4 :=
  ⟨(World.cell?_setCell_other _ _ _ _ (by simp <;> omega)).trans h.c0, (World.cell?_setCell_other _ _ _ _ (by simp <;> omega)).trans h.c1, (World.cell?_setCell_other _ _ _ _ (by simp <;> omega)).trans h.c2, (World.cell?_setCell_other _ _ _ _ (by simp <;> omega)).trans h.c3, (World.cell?_setCell_other _ _ _ _ (by simp <;> omega)).trans h.c4,
   (World.frozen?_setCell _ _ _ _).trans h.f0, (World.frozen?_setCell _ _ _ _).trans h.f1, (World.frozen?_setCell _ _ _ _).trans h.f2, (World.frozen?_setCell _ _ _ _).trans h.f3, (World.frozen?_setCell _ _ _ _).trans h.f4⟩
theorem Five.below {w w' : World} {b B : Nat} {v0 v1 v2 v3 v4 : Int} (h : Five w b v0 v1 v2 v3 v4) (hb : Below B w w') (hB : b < B) : Five w' b v0 v1 v2 v3 v4 :=
  ⟨(hb.cell (p := ⟨b, 0, none⟩) hB).trans h.c0, (hb.cell (p := ⟨b, 1, none⟩) hB).trans h.c1, (hb.cell (p := ⟨b, 2, none⟩) hB).trans h.c2, (hb.cell (p := ⟨b, 3, none⟩) hB).trans h.c3, (hb.cell (p := ⟨b, 4, none⟩) hB).trans h.c4,
   (hb.frozen (p := ⟨b, 0, none⟩) hB).trans h.f0, (hb.frozen (p := ⟨b, 1, none⟩) hB).trans h.f1, (hb.frozen (p := ⟨b, 2, none⟩) hB).trans h.f2, (hb.frozen (p := ⟨b, 3, none⟩) hB).trans h.f3, (hb.frozen (p := ⟨b, 4, none⟩) hB).trans h.f4⟩
theorem Five.drew {w : World} {b : Nat} {v0 v1 v2 v3 v4 : Int} (h : Five w b v0 v1 v2 v3 v4) : Five w.drew b v0 v1 v2 v3 v4 := ⟨h.c0, h.c1, h.c2, h.c3, h.c4, h.f0, h.f1, h.f2, h.f3, h.f4⟩
end Go.Proofs.YtepanogpojolfaaDoor

namespace Go.Proofs.YtepanogpojolfaaDoor
end Go.Proofs.YtepanogpojolfaaDoor
