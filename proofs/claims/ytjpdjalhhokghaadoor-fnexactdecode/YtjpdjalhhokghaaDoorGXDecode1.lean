/- Which word is an instruction of which shape: plain (2). Which word is an instruction of which shape: plain (3). -/
import Derived.Test.YtjpdjalhhokghaaDoorGXDecode0
import Derived.Test.YtjpdjalhhokghaaDoorGXInstrOK27
import Derived.Test.YtjpdjalhhokghaaDoorGXEncode5
import Derived.Test.YtjpdjalhhokghaaDoorGXEncode12
namespace Go.Proofs.YtjpdjalhhokghaaDoor
set_option linter.unusedVariables false

/-- What a word's fields are, if it is of a form. -/
def tkRd (f w : Int) : Int := if f = 4 ∨ f = 5 ∨ f = 9 then 0 else w / 128 % 32
def tkR1 (f w : Int) : Int := if f = 1 ∨ f = 2 ∨ f = 9 then 0 else w / 32768 % 32
def tkR2 (f w : Int) : Int := if f = 4 ∨ f = 5 ∨ f = 8 then w / 1048576 % 32 else 0

theorem regB_mod (x : Int) : regB (x % 32) = true := by
  unfold regB
  exact decide_eq_true (by omega)

theorem right_taken (f w : Int) (h0 : 1 ≤ f) (h1 : f ≤ 9) : rightF f (tkRd f w) (tkR1 f w) (tkR2 f w) (takeF f w) = true := by
  have hk : okB f (takeF f w) = true := by
    apply okB_t (by omega) (by omega)
    rcases (show f = 1 ∨ f = 2 ∨ f = 3 ∨ f = 4 ∨ f = 5 ∨ f = 6 ∨ f = 7 ∨ f = 8 ∨ f = 9 by omega) with rfl | rfl | rfl | rfl | rfl | rfl | rfl | rfl | rfl
    · show -2147483648 ≤ sgn (w / 4096 % 1048576 * 4096) 32 ∧ sgn (w / 4096 % 1048576 * 4096) 32 ≤ 2147479552 ∧ sgn (w / 4096 % 1048576 * 4096) 32 % 4096 = 0
      rw [sgn_num _ 32 2147483648 4294967296 (by decide) (by decide)]
      omega
    · show -1048576 ≤ sgn (w / 4096 % 256 * 4096 + w / 1048576 % 2 * 2048 + w / 2097152 % 1024 * 2 + w / 2147483648 % 2 * 1048576) 21 ∧ sgn (w / 4096 % 256 * 4096 + w / 1048576 % 2 * 2048 + w / 2097152 % 1024 * 2 + w / 2147483648 % 2 * 1048576) 21 ≤ 1048574 ∧ sgn (w / 4096 % 256 * 4096 + w / 1048576 % 2 * 2048 + w / 2097152 % 1024 * 2 + w / 2147483648 % 2 * 1048576) 21 % 2 = 0
      rw [sgn_num _ 21 1048576 2097152 (by decide) (by decide)]
      generalize w / 4096 % 256 = x
      generalize w / 1048576 % 2 = y
      generalize w / 2097152 % 1024 = z
      generalize w / 2147483648 % 2 = u
      omega
    · show -2048 ≤ sgn (w / 1048576 % 4096) 12 ∧ sgn (w / 1048576 % 4096) 12 ≤ 2047
      rw [sgn_num _ 12 2048 4096 (by decide) (by decide)]
      omega
    · show -4096 ≤ sgn (w / 128 % 2 * 2048 + w / 256 % 16 * 2 + w / 33554432 % 64 * 32 + w / 2147483648 % 2 * 4096) 13 ∧ sgn (w / 128 % 2 * 2048 + w / 256 % 16 * 2 + w / 33554432 % 64 * 32 + w / 2147483648 % 2 * 4096) 13 ≤ 4094 ∧ sgn (w / 128 % 2 * 2048 + w / 256 % 16 * 2 + w / 33554432 % 64 * 32 + w / 2147483648 % 2 * 4096) 13 % 2 = 0
      rw [sgn_num _ 13 4096 8192 (by decide) (by decide)]
      generalize w / 128 % 2 = x
      generalize w / 256 % 16 = y
      generalize w / 33554432 % 64 = z
      generalize w / 2147483648 % 2 = u
      omega
    · show -2048 ≤ sgn (w / 128 % 32 + w / 33554432 % 128 * 32) 12 ∧ sgn (w / 128 % 32 + w / 33554432 % 128 * 32) 12 ≤ 2047
      rw [sgn_num _ 12 2048 4096 (by decide) (by decide)]
      omega
    · show 0 ≤ w / 1048576 % 64 ∧ w / 1048576 % 64 ≤ 63
      omega
    · show 0 ≤ w / 1048576 % 32 ∧ w / 1048576 % 32 ≤ 31
      omega
    · rfl
    · rfl
  rcases (show f = 1 ∨ f = 2 ∨ f = 3 ∨ f = 4 ∨ f = 5 ∨ f = 6 ∨ f = 7 ∨ f = 8 ∨ f = 9 by omega) with rfl | rfl | rfl | rfl | rfl | rfl | rfl | rfl | rfl
  · show (regB (w / 128 % 32) && (0 : Int) == 0 && (0 : Int) == 0 && okB 1 (takeF 1 w)) = true
    rw [regB_mod, hk]; rfl
  · show (regB (w / 128 % 32) && (0 : Int) == 0 && (0 : Int) == 0 && okB 2 (takeF 2 w)) = true
    rw [regB_mod, hk]; rfl
  · show (regB (w / 128 % 32) && regB (w / 32768 % 32) && (0 : Int) == 0 && okB 3 (takeF 3 w)) = true
    rw [regB_mod, regB_mod, hk]; rfl
  · show ((0 : Int) == 0 && regB (w / 32768 % 32) && regB (w / 1048576 % 32) && okB 4 (takeF 4 w)) = true
    rw [regB_mod, regB_mod, hk]; rfl
  · show ((0 : Int) == 0 && regB (w / 32768 % 32) && regB (w / 1048576 % 32) && okB 5 (takeF 5 w)) = true
    rw [regB_mod, regB_mod, hk]; rfl
  · show (regB (w / 128 % 32) && regB (w / 32768 % 32) && (0 : Int) == 0 && okB 6 (takeF 6 w)) = true
    rw [regB_mod, regB_mod, hk]; rfl
  · show (regB (w / 128 % 32) && regB (w / 32768 % 32) && (0 : Int) == 0 && okB 7 (takeF 7 w)) = true
    rw [regB_mod, regB_mod, hk]; rfl
  · show (regB (w / 128 % 32) && regB (w / 32768 % 32) && regB (w / 1048576 % 32) && (0 : Int) == 0) = true
    rw [regB_mod, regB_mod, regB_mod]; rfl
  · rfl
end Go.Proofs.YtjpdjalhhokghaaDoor

namespace Go.Proofs.YtjpdjalhhokghaaDoor
set_option linter.unusedVariables false

set_option maxHeartbeats 1000000 in
theorem fix_hit (f c g h w : Int) (hs : shOK f c g h = true) (w0 : 0 ≤ w) (w1 : w < 4294967296) : bits .and .i64 w (fixB f) = fixW f c g h ↔ hitI f c g h w := by
  obtain ⟨f0, f1, k0, k1, g0, g1, h0, h1⟩ := sh_bounds hs
  obtain ⟨m1, m2, m3, m4, m5, m9⟩ := sh_more hs
  obtain ⟨n, rfl⟩ := Int.eq_ofNat_of_zero_le w0
  have hn : n < 4294967296 := by omega
  rcases (show f = 1 ∨ f = 2 ∨ f = 3 ∨ f = 4 ∨ f = 5 ∨ f = 6 ∨ f = 7 ∨ f = 8 ∨ f = 9 by omega) with rfl | rfl | rfl | rfl | rfl | rfl | rfl | rfl | rfl
  · obtain ⟨rfl, rfl⟩ := m1 rfl
    show bits .and .i64 (n : Int) 127 = c + 0 * 4096 + 0 * 33554432 ↔ (n : Int) % 128 = c
    rw [and_127 n hn]
    omega
  · obtain ⟨rfl, rfl⟩ := m2 rfl
    show bits .and .i64 (n : Int) 127 = c + 0 * 4096 + 0 * 33554432 ↔ (n : Int) % 128 = c
    rw [and_127 n hn]
    omega
  · obtain rfl := m3 rfl
    show bits .and .i64 (n : Int) 28799 = c + g * 4096 + 0 * 33554432 ↔ (n : Int) % 128 = c ∧ (n : Int) / 4096 % 8 = g
    rw [and_28799 n hn]
    omega
  · obtain rfl := m4 rfl
    show bits .and .i64 (n : Int) 28799 = c + g * 4096 + 0 * 33554432 ↔ (n : Int) % 128 = c ∧ (n : Int) / 4096 % 8 = g
    rw [and_28799 n hn]
    omega
  · obtain rfl := m5 rfl
    show bits .and .i64 (n : Int) 28799 = c + g * 4096 + 0 * 33554432 ↔ (n : Int) % 128 = c ∧ (n : Int) / 4096 % 8 = g
    rw [and_28799 n hn]
    omega
  · show bits .and .i64 (n : Int) 4227887231 = c + g * 4096 + h / 2 * 67108864 ↔ (n : Int) % 128 = c ∧ (n : Int) / 4096 % 8 = g ∧ (n : Int) / 67108864 = h / 2
    rw [and_4227887231 n hn]
    have e : ((n % 128 + n / 4096 % 8 * 4096 + n / 67108864 * 67108864 : Nat) : Int) = (n : Int) % 128 + (n : Int) / 4096 % 8 * 4096 + (n : Int) / 67108864 * 67108864 := by omega
    rw [e]
    have p : 0 ≤ (n : Int) % 128 ∧ (n : Int) % 128 < 128 := by omega
    have q : 0 ≤ (n : Int) / 4096 % 8 ∧ (n : Int) / 4096 % 8 < 8 := by omega
    have r : 0 ≤ h / 2 := by omega
    generalize (n : Int) % 128 = x at *
    generalize (n : Int) / 4096 % 8 = y at *
    generalize (n : Int) / 67108864 = z at *
    generalize h / 2 = u at *
    omega
  · show bits .and .i64 (n : Int) 4261441663 = c + g * 4096 + h * 33554432 ↔ (n : Int) % 128 = c ∧ (n : Int) / 4096 % 8 = g ∧ (n : Int) / 33554432 = h
    rw [and_4261441663 n hn]
    have e : ((n % 128 + n / 4096 % 8 * 4096 + n / 33554432 * 33554432 : Nat) : Int) = (n : Int) % 128 + (n : Int) / 4096 % 8 * 4096 + (n : Int) / 33554432 * 33554432 := by omega
    rw [e]
    have p : 0 ≤ (n : Int) % 128 ∧ (n : Int) % 128 < 128 := by omega
    have q : 0 ≤ (n : Int) / 4096 % 8 ∧ (n : Int) / 4096 % 8 < 8 := by omega
    generalize (n : Int) % 128 = x at *
    generalize (n : Int) / 4096 % 8 = y at *
    generalize (n : Int) / 33554432 = z at *
    omega
  · show bits .and .i64 (n : Int) 4261441663 = c + g * 4096 + h * 33554432 ↔ (n : Int) % 128 = c ∧ (n : Int) / 4096 % 8 = g ∧ (n : Int) / 33554432 = h
    rw [and_4261441663 n hn]
    have e : ((n % 128 + n / 4096 % 8 * 4096 + n / 33554432 * 33554432 : Nat) : Int) = (n : Int) % 128 + (n : Int) / 4096 % 8 * 4096 + (n : Int) / 33554432 * 33554432 := by omega
    rw [e]
    have p : 0 ≤ (n : Int) % 128 ∧ (n : Int) % 128 < 128 := by omega
    have q : 0 ≤ (n : Int) / 4096 % 8 ∧ (n : Int) / 4096 % 8 < 8 := by omega
    generalize (n : Int) % 128 = x at *
    generalize (n : Int) / 4096 % 8 = y at *
    generalize (n : Int) / 33554432 = z at *
    omega
  · show bits .and .i64 (n : Int) 4294967295 = c + g * 4096 + h * 1048576 ↔ (n : Int) = c + g * 4096 + h * 1048576
    rw [and_all n hn]

theorem lay_take2 (a b c d : Int) (ha : 0 ≤ a ∧ a < 256) (hb : 0 ≤ b ∧ b < 2) (hc : 0 ≤ c ∧ c < 1024) (hd : 0 ≤ d ∧ d < 2) :
    layF 2 (sgn (a * 4096 + b * 2048 + c * 2 + d * 1048576) 21) = a * 4096 + b * 1048576 + c * 2097152 + d * 2147483648 := by
  rw [sgn_num _ 21 1048576 2097152 (by decide) (by decide)]
  have e : (a * 4096 + b * 2048 + c * 2 + d * 1048576 + 1048576) % 2097152 - 1048576 = a * 4096 + b * 2048 + c * 2 - d * 1048576 := by
    rcases (show d = 0 ∨ d = 1 by omega) with rfl | rfl <;> omega
  rw [e]
  generalize hv : a * 4096 + b * 2048 + c * 2 - d * 1048576 = v
  show v / 4096 % 256 * 4096 + v / 2048 % 2 * 1048576 + v / 2 % 1024 * 2097152 + v / 1048576 % 2 * 2147483648 = _
  have e1 : v / 4096 = a - 256 * d := by omega
  have e2 : v / 2048 = a * 2 + b - 512 * d := by omega
  have e3 : v / 2 = a * 2048 + b * 1024 + c - 524288 * d := by omega
  have e4 : v / 1048576 = -d := by omega
  rw [e1, e2, e3, e4]
  have p1 : (a - 256 * d) % 256 = a := by omega
  have p2 : (a * 2 + b - 512 * d) % 2 = b := by omega
  have p3 : (a * 2048 + b * 1024 + c - 524288 * d) % 1024 = c := by omega
  have p4 : (-d) % 2 = d := by omega
  rw [p1, p2, p3, p4]
theorem lay_take4 (a b c d : Int) (ha : 0 ≤ a ∧ a < 2) (hb : 0 ≤ b ∧ b < 16) (hc : 0 ≤ c ∧ c < 64) (hd : 0 ≤ d ∧ d < 2) :
    layF 4 (sgn (a * 2048 + b * 2 + c * 32 + d * 4096) 13) = a * 128 + b * 256 + c * 33554432 + d * 2147483648 := by
  rw [sgn_num _ 13 4096 8192 (by decide) (by decide)]
  have e : (a * 2048 + b * 2 + c * 32 + d * 4096 + 4096) % 8192 - 4096 = a * 2048 + b * 2 + c * 32 - d * 4096 := by
    rcases (show d = 0 ∨ d = 1 by omega) with rfl | rfl <;> omega
  rw [e]
  generalize hv : a * 2048 + b * 2 + c * 32 - d * 4096 = v
  show v / 2048 % 2 * 128 + v / 2 % 16 * 256 + v / 32 % 64 * 33554432 + v / 4096 % 2 * 2147483648 = _
  have e1 : v / 2048 = a - 2 * d := by omega
  have e2 : v / 2 = a * 1024 + b + c * 16 - 2048 * d := by omega
  have e3 : v / 32 = a * 64 + c - 128 * d := by omega
  have e4 : v / 4096 = -d := by omega
  rw [e1, e2, e3, e4]
  have p1 : (a - 2 * d) % 2 = a := by omega
  have p2 : (a * 1024 + b + c * 16 - 2048 * d) % 16 = b := by omega
  have p3 : (a * 64 + c - 128 * d) % 64 = c := by omega
  have p4 : (-d) % 2 = d := by omega
  rw [p1, p2, p3, p4]
theorem lay_take5 (a c : Int) (ha : 0 ≤ a ∧ a < 32) (hc : 0 ≤ c ∧ c < 128) : layF 5 (sgn (a + c * 32) 12) = a * 128 + c * 33554432 := by
  rw [sgn_num _ 12 2048 4096 (by decide) (by decide)]
  generalize hv : (a + c * 32 + 2048) % 4096 - 2048 = v
  show v % 32 * 128 + v / 32 % 128 * 33554432 = _
  have p1 : v % 32 = a := by omega
  have p2 : v / 32 % 128 = c := by omega
  rw [p1, p2]
end Go.Proofs.YtjpdjalhhokghaaDoor
