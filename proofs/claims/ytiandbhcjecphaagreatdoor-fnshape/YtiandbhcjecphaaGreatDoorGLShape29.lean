/- Contracts of both PutLittle. Numbers out of bytes: plain. Numbers out of bytes: contracts. Contracts of the model's SignOf. -/
import Derived.Test.YtiandbhcjecphaaGreatDoorGLShape28
import Derived.Test.YtiandbhcjecphaaGreatDoorGLShape0
import Derived.Laws.BitsAllLaws
import Derived.Test.YtiandbhcjecphaaGreatDoorGLShape10
import Derived.Test.YtiandbhcjecphaaGreatDoorGLShape6
namespace Go.Proofs.YtiandbhcjecphaaGreatDoor
open Go.RowKit
set_option linter.unusedVariables false

def widthOK (n : Int) : Prop := n = 1 ∨ n = 2 ∨ n = 4 ∨ n = 8
theorem ret_two {a b : List UInt8} {x y : Int} (h : a = b) (k : x = y) : Ending.returned (.tuple #[.string ⟨a.toArray⟩, .int .i64 x]) = .returned (.tuple #[.string ⟨b.toArray⟩, .int .i64 y]) := by rw [h, k]

end Go.Proofs.YtiandbhcjecphaaGreatDoor

namespace Go.Proofs.YtiandbhcjecphaaGreatDoor

/-- The number that the bytes f 0, f 1 .. are, the lowest one first. -/
def valF (f : Nat → UInt8) : Nat → Nat
  | 0 => 0
  | n + 1 => valF f n + (f n).toNat * 256 ^ n

theorem valF_lt (f : Nat → UInt8) (n : Nat) : valF f n < 256 ^ n := by
  induction n with
  | zero => simp [valF]
  | succ n ih =>
    have hf := (f n).toNat_lt
    have : (f n).toNat * 256 ^ n ≤ 255 * 256 ^ n := Nat.mul_le_mul_right _ (by omega)
    rw [valF, Nat.pow_succ]
    omega

theorem valF_congr (f g : Nat → UInt8) : ∀ n, (∀ i, i < n → f i = g i) → valF f n = valF g n
  | 0, _ => rfl
  | n + 1, h => by rw [valF, valF, valF_congr f g n (fun i hi => h i (by omega)), h n (by omega)]

theorem valF_horner (f : Nat → UInt8) (n k o : Nat) (h : valF f n = valF f (k + 1) + 256 ^ (k + 1) * o) : valF f n = valF f k + 256 ^ k * (256 * o + (f k).toNat) := by
  rw [h, valF, Nat.pow_succ, Nat.mul_add, Nat.mul_comm (f k).toNat, Nat.mul_assoc]
  omega

theorem horner_bd (f : Nat → UInt8) (n k o : Nat) (hn : n ≤ 8) (h : valF f n = valF f (k + 1) + 256 ^ (k + 1) * o) : o ≤ 72057594037927935 := by
  have h1 := valF_lt f n
  have h2 : 256 ^ n ≤ 256 ^ 8 := Nat.pow_le_pow_right (by decide) hn
  have h3 : 256 ^ 1 ≤ 256 ^ (k + 1) := Nat.pow_le_pow_right (by decide) (by omega)
  have h4 : 256 * o ≤ 256 ^ (k + 1) * o := Nat.mul_le_mul_right _ (by simpa using h3)
  have h5 : (256 : Nat) ^ 8 = 18446744073709551616 := by decide
  omega

theorem or_up (v c k : Nat) (h : v < 2 ^ k) : v ||| c * 2 ^ k = v + c * 2 ^ k := by
  rw [Nat.or_comm, ← Nat.shiftLeft_eq, ← Nat.shiftLeft_add_eq_or_of_lt h]
  omega
theorem pow_256 (k : Nat) : (256 : Nat) ^ k = 2 ^ (8 * k) := by
  rw [Nat.pow_mul]

theorem or_u8 (v c k : Nat) (hk : k < 1) (hv : v < 256 ^ k) (hc : c < 256) : bits .or .u8 (v : Int) (IntKind.u8.wrap ((c : Int) * 2 ^ (8 * k))) = ((v + c * 256 ^ k : Nat) : Int) := by
  have h1 : 256 ^ k * 256 ≤ 256 ^ 1 := by rw [← Nat.pow_succ]; exact Nat.pow_le_pow_right (by decide) hk
  have h2 : c * 256 ^ k < 256 ^ k * 256 := by
    rw [Nat.mul_comm]
    exact Nat.mul_lt_mul_of_pos_left hc (Nat.pow_pos (by decide))
  have h5 : (256 : Nat) ^ 1 = 256 := by decide
  have e2 : (c : Int) * 2 ^ (8 * k) = ((c * 256 ^ k : Nat) : Int) := by
    rw [pow_256]
    simp
  have e3 : IntKind.u8.wrap ((c * 256 ^ k : Nat) : Int) = ((c * 256 ^ k : Nat) : Int) := by
    show ((c * 256 ^ k : Nat) : Int) % 256 = _
    omega
  rw [e2, e3, u8_or_nat _ _ (by omega) (by omega), pow_256, or_up v c (8 * k) (by rw [← pow_256]; exact hv)]

theorem or_u16 (v c k : Nat) (hk : k < 2) (hv : v < 256 ^ k) (hc : c < 256) : bits .or .u16 (v : Int) (IntKind.u16.wrap (IntKind.u16.wrap (c : Int) * 2 ^ (8 * k))) = ((v + c * 256 ^ k : Nat) : Int) := by
  have h1 : 256 ^ k * 256 ≤ 256 ^ 2 := by rw [← Nat.pow_succ]; exact Nat.pow_le_pow_right (by decide) hk
  have h2 : c * 256 ^ k < 256 ^ k * 256 := by
    rw [Nat.mul_comm]
    exact Nat.mul_lt_mul_of_pos_left hc (Nat.pow_pos (by decide))
  have h5 : (256 : Nat) ^ 2 = 65536 := by decide
  have e1 : IntKind.u16.wrap (c : Int) = (c : Int) := by
    show (c : Int) % 65536 = _
    omega
  have e2 : (c : Int) * 2 ^ (8 * k) = ((c * 256 ^ k : Nat) : Int) := by
    rw [pow_256]
    simp
  have e3 : IntKind.u16.wrap ((c * 256 ^ k : Nat) : Int) = ((c * 256 ^ k : Nat) : Int) := by
    show ((c * 256 ^ k : Nat) : Int) % 65536 = _
    omega
  rw [e1, e2, e3, u16_or_nat _ _ (by omega) (by omega), pow_256, or_up v c (8 * k) (by rw [← pow_256]; exact hv)]

theorem or_u32 (v c k : Nat) (hk : k < 4) (hv : v < 256 ^ k) (hc : c < 256) : bits .or .u32 (v : Int) (IntKind.u32.wrap (IntKind.u32.wrap (c : Int) * 2 ^ (8 * k))) = ((v + c * 256 ^ k : Nat) : Int) := by
  have h1 : 256 ^ k * 256 ≤ 256 ^ 4 := by rw [← Nat.pow_succ]; exact Nat.pow_le_pow_right (by decide) hk
  have h2 : c * 256 ^ k < 256 ^ k * 256 := by
    rw [Nat.mul_comm]
    exact Nat.mul_lt_mul_of_pos_left hc (Nat.pow_pos (by decide))
  have h5 : (256 : Nat) ^ 4 = 4294967296 := by decide
  have e1 : IntKind.u32.wrap (c : Int) = (c : Int) := by
    show (c : Int) % 4294967296 = _
    omega
  have e2 : (c : Int) * 2 ^ (8 * k) = ((c * 256 ^ k : Nat) : Int) := by
    rw [pow_256]
    simp
  have e3 : IntKind.u32.wrap ((c * 256 ^ k : Nat) : Int) = ((c * 256 ^ k : Nat) : Int) := by
    show ((c * 256 ^ k : Nat) : Int) % 4294967296 = _
    omega
  rw [e1, e2, e3, u32_or_nat _ _ (by omega) (by omega), pow_256, or_up v c (8 * k) (by rw [← pow_256]; exact hv)]

theorem or_u64 (v c k : Nat) (hk : k < 8) (hv : v < 256 ^ k) (hc : c < 256) : bits .or .u64 (v : Int) (IntKind.u64.wrap (IntKind.u64.wrap (c : Int) * 2 ^ (8 * k))) = ((v + c * 256 ^ k : Nat) : Int) := by
  have h1 : 256 ^ k * 256 ≤ 256 ^ 8 := by rw [← Nat.pow_succ]; exact Nat.pow_le_pow_right (by decide) hk
  have h2 : c * 256 ^ k < 256 ^ k * 256 := by
    rw [Nat.mul_comm]
    exact Nat.mul_lt_mul_of_pos_left hc (Nat.pow_pos (by decide))
  have h5 : (256 : Nat) ^ 8 = 18446744073709551616 := by decide
  have e1 : IntKind.u64.wrap (c : Int) = (c : Int) := by
    show (c : Int) % 18446744073709551616 = _
    omega
  have e2 : (c : Int) * 2 ^ (8 * k) = ((c * 256 ^ k : Nat) : Int) := by
    rw [pow_256]
    simp
  have e3 : IntKind.u64.wrap ((c * 256 ^ k : Nat) : Int) = ((c * 256 ^ k : Nat) : Int) := by
    show ((c * 256 ^ k : Nat) : Int) % 18446744073709551616 = _
    omega
  rw [e1, e2, e3, u64_or_nat _ _ (by omega) (by omega), pow_256, or_up v c (8 * k) (by rw [← pow_256]; exact hv)]
end Go.Proofs.YtiandbhcjecphaaGreatDoor

namespace Go.Proofs.YtiandbhcjecphaaGreatDoor
open Go.RowKit
set_option linter.unusedVariables false

/-- The byte at a place of a text. -/
def bt (s : ByteArray) (i : Nat) : UInt8 := s.data.toList.getD i 0
theorem bt_eq (s : ByteArray) (i : Nat) (h : i < s.size) : s[i] = bt s i := by
  have hl : s.data.toList.length = s.size := by rw [Array.length_toList]; rfl
  show s.data[i] = _
  unfold bt
  simp [List.getD, h]

set_option maxRecDepth 100000 in
set_option maxHeartbeats 1000000 in
theorem gather_u32 (s : ByteArray) (w : World) (hs : s.size ≤ 4) :
    Calls Tryz.prog 74 #[.string s] w fun e w' => e = .returned (.int .u32 (valF (bt s) s.size : Nat)) ∧ w' = w := by
  go_enter Tryz.func74, Tryz.ntmps74
  go_wp2
  go_loop [3, 7] (fun x t => ∃ k v : Nat, k ≤ s.size ∧ t = .int .i64 k ∧ x = .int .u32 v ∧ Hid (v = valF (bt s) k)) (fun _ t => s.size - (intOf t).toNat)
  case atStart => exact ⟨0, 0, Nat.zero_le _, rfl, rfl, rfl⟩
  case round =>
    obtain ⟨k, v, hk, rfl, rfl, hv⟩ := hrel
    by_cases hlt : k < s.size
    · have hor := or_u32 v s[k].toNat k (by omega) (by rw [hv.out]; exact valF_lt _ _) s[k].toNat_lt
      obtain ⟨u, hu⟩ : ∃ u, u = v + s[k].toNat * 256 ^ k := ⟨_, rfl⟩
      rw [← hu] at hor
      have hor2 : bits .or .u32 (v : Int) (((s[k].toNat : Nat) : Int) % 4294967296 * 2 ^ (8 * k) % 4294967296) = (u : Int) := hor
      have HU : Hid (u = valF (bt s) (k + 1)) := by
        show u = _
        rw [hu, hv.out, valF, bt_eq s k hlt]
      clear hu
      go_wp2
      go_round
      case rel => exact ⟨k + 1, u, by omega, by go_num, rfl, HU⟩
      case measure => simp [intOf]; omega
    · obtain rfl : k = s.size := by omega
      go_wp2
      go_ret
      exact ⟨congrArg (fun x : Nat => Ending.returned (.int .u32 (x : Int))) hv.out, rfl⟩

end Go.Proofs.YtiandbhcjecphaaGreatDoor

namespace Go.Proofs.YtiandbhcjecphaaGreatDoor
open Go.RowKit
set_option linter.unusedVariables false

theorem specIn (x low high : Int) (w : World) (b : Bool) (h : (b = true ∧ low ≤ x ∧ x ≤ high) ∨ (b = false ∧ (x < low ∨ high < x))) :
    Calls Tryz.prog 58 #[.int .i64 x, .int .i64 low, .int .i64 high] w fun e w' => e = .returned (.bool b) ∧ w' = w := by
  rcases h with ⟨rfl, h0, h1⟩ | ⟨rfl, h⟩
  · go_enter Tryz.func58, Tryz.ntmps58
    go_wp2
    go_ret
    refine ⟨congrArg (fun x => Ending.returned (.bool x)) ?_, rfl⟩
    first | rfl | (simp; done) | (simp; omega)
  · by_cases h0 : x < low
    · go_enter Tryz.func58, Tryz.ntmps58
      go_wp2
      go_ret
      refine ⟨congrArg (fun x => Ending.returned (.bool x)) ?_, rfl⟩
      first | rfl | (simp; done) | (simp; omega)
    · have h1 : high < x := by omega
      clear h
      go_enter Tryz.func58, Tryz.ntmps58
      go_wp2
      go_ret
      refine ⟨congrArg (fun x => Ending.returned (.bool x)) ?_, rfl⟩
      first | rfl | (simp; done) | (simp; omega)

end Go.Proofs.YtiandbhcjecphaaGreatDoor
