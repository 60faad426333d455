/- Numbers out of bytes: plain. -/
import Derived.Test.YtjpdjalhhokghaaDoorLitP
import Derived.Laws.BitsAllLaws
namespace Go.Proofs.YtjpdjalhhokghaaDoor

/-- The number that the bytes f 0, f 1 .. are, the lowest one first. -/
def valF (f : Nat → UInt8) : Nat → Nat
  | 0 => 0
  | n + 1 => valF f n + (f n).toNat * 256 ^ n

theorem valF_lt (f : Nat → UInt8) (n : Nat) : valF f n < 256 ^ n := by
  induction n with
  | zero => simp [valF]
  | succ n ih =>
    have hf := (f n).toNat_lt
    have : (f n).toNat * 256 ^ n ≤ 255 * 256 ^ n := Nat.mul_le_mul_right _ (by omega)
    rw [valF, Nat.pow_succ]
    omega

theorem valF_congr (f g : Nat → UInt8) : ∀ n, (∀ i, i < n → f i = g i) → valF f n = valF g n
  | 0, _ => rfl
  | n + 1, h => by rw [valF, valF, valF_congr f g n (fun i hi => h i (by omega)), h n (by omega)]

theorem valF_horner (f : Nat → UInt8) (n k o : Nat) (h : valF f n = valF f (k + 1) + 256 ^ (k + 1) * o) : valF f n = valF f k + 256 ^ k * (256 * o + (f k).toNat) := by
  rw [h, valF, Nat.pow_succ, Nat.mul_add, Nat.mul_comm (f k).toNat, Nat.mul_assoc]
  omega

theorem horner_bd (f : Nat → UInt8) (n k o : Nat) (hn : n ≤ 8) (h : valF f n = valF f (k + 1) + 256 ^ (k + 1) * o) : o ≤ 72057594037927935 := by
  have h1 := valF_lt f n
  have h2 : 256 ^ n ≤ 256 ^ 8 := Nat.pow_le_pow_right (by decide) hn
  have h3 : 256 ^ 1 ≤ 256 ^ (k + 1) := Nat.pow_le_pow_right (by decide) (by omega)
  have h4 : 256 * o ≤ 256 ^ (k + 1) * o := Nat.mul_le_mul_right _ (by simpa using h3)
  have h5 : (256 : Nat) ^ 8 = 18446744073709551616 := by decide
  omega

theorem or_up (v c k : Nat) (h : v < 2 ^ k) : v ||| c * 2 ^ k = v + c * 2 ^ k := by
  rw [Nat.or_comm, ← Nat.shiftLeft_eq, ← Nat.shiftLeft_add_eq_or_of_lt h]
  omega
theorem pow_256 (k : Nat) : (256 : Nat) ^ k = 2 ^ (8 * k) := by
  rw [Nat.pow_mul]

theorem or_u8 (v c k : Nat) (hk : k < 1) (hv : v < 256 ^ k) (hc : c < 256) : bits .or .u8 (v : Int) (IntKind.u8.wrap ((c : Int) * 2 ^ (8 * k))) = ((v + c * 256 ^ k : Nat) : Int) := by
  have h1 : 256 ^ k * 256 ≤ 256 ^ 1 := by rw [← Nat.pow_succ]; exact Nat.pow_le_pow_right (by decide) hk
  have h2 : c * 256 ^ k < 256 ^ k * 256 := by
    rw [Nat.mul_comm]
    exact Nat.mul_lt_mul_of_pos_left hc (Nat.pow_pos (by decide))
  have h5 : (256 : Nat) ^ 1 = 256 := by decide
  have e2 : (c : Int) * 2 ^ (8 * k) = ((c * 256 ^ k : Nat) : Int) := by
    rw [pow_256]
    simp
  have e3 : IntKind.u8.wrap ((c * 256 ^ k : Nat) : Int) = ((c * 256 ^ k : Nat) : Int) := by
    show ((c * 256 ^ k : Nat) : Int) % 256 = _
    omega
  rw [e2, e3, u8_or_nat _ _ (by omega) (by omega), pow_256, or_up v c (8 * k) (by rw [← pow_256]; exact hv)]

theorem or_u16 (v c k : Nat) (hk : k < 2) (hv : v < 256 ^ k) (hc : c < 256) : bits .or .u16 (v : Int) (IntKind.u16.wrap (IntKind.u16.wrap (c : Int) * 2 ^ (8 * k))) = ((v + c * 256 ^ k : Nat) : Int) := by
  have h1 : 256 ^ k * 256 ≤ 256 ^ 2 := by rw [← Nat.pow_succ]; exact Nat.pow_le_pow_right (by decide) hk
  have h2 : c * 256 ^ k < 256 ^ k * 256 := by
    rw [Nat.mul_comm]
    exact Nat.mul_lt_mul_of_pos_left hc (Nat.pow_pos (by decide))
  have h5 : (256 : Nat) ^ 2 = 65536 := by decide
  have e1 : IntKind.u16.wrap (c : Int) = (c : Int) := by
    show (c : Int) % 65536 = _
    omega
  have e2 : (c : Int) * 2 ^ (8 * k) = ((c * 256 ^ k : Nat) : Int) := by
    rw [pow_256]
    simp
  have e3 : IntKind.u16.wrap ((c * 256 ^ k : Nat) : Int) = ((c * 256 ^ k : Nat) : Int) := by
    show ((c * 256 ^ k : Nat) : Int) % 65536 = _
    omega
  rw [e1, e2, e3, u16_or_nat _ _ (by omega) (by omega), pow_256, or_up v c (8 * k) (by rw [← pow_256]; exact hv)]

theorem or_u32 (v c k : Nat) (hk : k < 4) (hv : v < 256 ^ k) (hc : c < 256) : bits .or .u32 (v : Int) (IntKind.u32.wrap (IntKind.u32.wrap (c : Int) * 2 ^ (8 * k))) = ((v + c * 256 ^ k : Nat) : Int) := by
  have h1 : 256 ^ k * 256 ≤ 256 ^ 4 := by rw [← Nat.pow_succ]; exact Nat.pow_le_pow_right (by decide) hk
  have h2 : c * 256 ^ k < 256 ^ k * 256 := by
    rw [Nat.mul_comm]
    exact Nat.mul_lt_mul_of_pos_left hc (Nat.pow_pos (by decide))
  have h5 : (256 : Nat) ^ 4 = 4294967296 := by decide
  have e1 : IntKind.u32.wrap (c : Int) = (c : Int) := by
    show (c : Int) % 4294967296 = _
    omega
  have e2 : (c : Int) * 2 ^ (8 * k) = ((c * 256 ^ k : Nat) : Int) := by
    rw [pow_256]
    simp
  have e3 : IntKind.u32.wrap ((c * 256 ^ k : Nat) : Int) = ((c * 256 ^ k : Nat) : Int) := by
    show ((c * 256 ^ k : Nat) : Int) % 4294967296 = _
    omega
  rw [e1, e2, e3, u32_or_nat _ _ (by omega) (by omega), pow_256, or_up v c (8 * k) (by rw [← pow_256]; exact hv)]

theorem or_u64 (v c k : Nat) (hk : k < 8) (hv : v < 256 ^ k) (hc : c < 256) : bits .or .u64 (v : Int) (IntKind.u64.wrap (IntKind.u64.wrap (c : Int) * 2 ^ (8 * k))) = ((v + c * 256 ^ k : Nat) : Int) := by
  have h1 : 256 ^ k * 256 ≤ 256 ^ 8 := by rw [← Nat.pow_succ]; exact Nat.pow_le_pow_right (by decide) hk
  have h2 : c * 256 ^ k < 256 ^ k * 256 := by
    rw [Nat.mul_comm]
    exact Nat.mul_lt_mul_of_pos_left hc (Nat.pow_pos (by decide))
  have h5 : (256 : Nat) ^ 8 = 18446744073709551616 := by decide
  have e1 : IntKind.u64.wrap (c : Int) = (c : Int) := by
    show (c : Int) % 18446744073709551616 = _
    omega
  have e2 : (c : Int) * 2 ^ (8 * k) = ((c * 256 ^ k : Nat) : Int) := by
    rw [pow_256]
    simp
  have e3 : IntKind.u64.wrap ((c * 256 ^ k : Nat) : Int) = ((c * 256 ^ k : Nat) : Int) := by
    show ((c * 256 ^ k : Nat) : Int) % 18446744073709551616 = _
    omega
  rw [e1, e2, e3, u64_or_nat _ _ (by omega) (by omega), pow_256, or_up v c (8 * k) (by rw [← pow_256]; exact hv)]
end Go.Proofs.YtjpdjalhhokghaaDoor
