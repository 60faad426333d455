/- Numbers out of bytes: contracts. -/
import Derived.Test.YtjpdjalhhokghaaDoorLitB
import Derived.Test.YtjpdjalhhokghaaDoorTakP
namespace Go.Proofs.YtjpdjalhhokghaaDoor
open Go.RowKit
set_option linter.unusedVariables false

/-- The byte at a place of a text. -/
def bt (s : ByteArray) (i : Nat) : UInt8 := s.data.toList.getD i 0
theorem bt_eq (s : ByteArray) (i : Nat) (h : i < s.size) : s[i] = bt s i := by
  have hl : s.data.toList.length = s.size := by rw [Array.length_toList]; rfl
  show s.data[i] = _
  unfold bt
  simp [List.getD, h]

set_option maxRecDepth 100000 in
set_option maxHeartbeats 1000000 in
theorem gather_u8 (s : ByteArray) (w : World) (hs : s.size ≤ 1) :
    Calls Tryd.prog 52 #[.string s] w fun e w' => e = .returned (.int .u8 (valF (bt s) s.size : Nat)) ∧ w' = w := by
  go_enter Tryd.func52, Tryd.ntmps52
  go_wp2
  go_loop [3, 7] (fun x t => ∃ k v : Nat, k ≤ s.size ∧ t = .int .i64 k ∧ x = .int .u8 v ∧ Hid (v = valF (bt s) k)) (fun _ t => s.size - (intOf t).toNat)
  case atStart => exact ⟨0, 0, Nat.zero_le _, rfl, rfl, rfl⟩
  case round =>
    obtain ⟨k, v, hk, rfl, rfl, hv⟩ := hrel
    by_cases hlt : k < s.size
    · have hor := or_u8 v s[k].toNat k (by omega) (by rw [hv.out]; exact valF_lt _ _) s[k].toNat_lt
      obtain ⟨u, hu⟩ : ∃ u, u = v + s[k].toNat * 256 ^ k := ⟨_, rfl⟩
      rw [← hu] at hor
      have hor2 : bits .or .u8 (v : Int) (((s[k].toNat : Nat) : Int) * 2 ^ (8 * k) % 256) = (u : Int) := hor
      have HU : Hid (u = valF (bt s) (k + 1)) := by
        show u = _
        rw [hu, hv.out, valF, bt_eq s k hlt]
      clear hu
      go_wp2
      go_round
      case rel => exact ⟨k + 1, u, by omega, by go_num, rfl, HU⟩
      case measure => simp [intOf]; omega
    · obtain rfl : k = s.size := by omega
      go_wp2
      go_ret
      exact ⟨congrArg (fun x : Nat => Ending.returned (.int .u8 (x : Int))) hv.out, rfl⟩

set_option maxRecDepth 100000 in
set_option maxHeartbeats 1000000 in
theorem gather_u16 (s : ByteArray) (w : World) (hs : s.size ≤ 2) :
    Calls Tryd.prog 53 #[.string s] w fun e w' => e = .returned (.int .u16 (valF (bt s) s.size : Nat)) ∧ w' = w := by
  go_enter Tryd.func53, Tryd.ntmps53
  go_wp2
  go_loop [3, 7] (fun x t => ∃ k v : Nat, k ≤ s.size ∧ t = .int .i64 k ∧ x = .int .u16 v ∧ Hid (v = valF (bt s) k)) (fun _ t => s.size - (intOf t).toNat)
  case atStart => exact ⟨0, 0, Nat.zero_le _, rfl, rfl, rfl⟩
  case round =>
    obtain ⟨k, v, hk, rfl, rfl, hv⟩ := hrel
    by_cases hlt : k < s.size
    · have hor := or_u16 v s[k].toNat k (by omega) (by rw [hv.out]; exact valF_lt _ _) s[k].toNat_lt
      obtain ⟨u, hu⟩ : ∃ u, u = v + s[k].toNat * 256 ^ k := ⟨_, rfl⟩
      rw [← hu] at hor
      have HU : Hid (u = valF (bt s) (k + 1)) := by
        show u = _
        rw [hu, hv.out, valF, bt_eq s k hlt]
      clear hu
      go_wp2
      go_round
      case rel => exact ⟨k + 1, u, by omega, by go_num, rfl, HU⟩
      case measure => simp [intOf]; omega
    · obtain rfl : k = s.size := by omega
      go_wp2
      go_ret
      exact ⟨congrArg (fun x : Nat => Ending.returned (.int .u16 (x : Int))) hv.out, rfl⟩

set_option maxRecDepth 100000 in
set_option maxHeartbeats 1000000 in
theorem gather_u32 (s : ByteArray) (w : World) (hs : s.size ≤ 4) :
    Calls Tryd.prog 54 #[.string s] w fun e w' => e = .returned (.int .u32 (valF (bt s) s.size : Nat)) ∧ w' = w := by
  go_enter Tryd.func54, Tryd.ntmps54
  go_wp2
  go_loop [3, 7] (fun x t => ∃ k v : Nat, k ≤ s.size ∧ t = .int .i64 k ∧ x = .int .u32 v ∧ Hid (v = valF (bt s) k)) (fun _ t => s.size - (intOf t).toNat)
  case atStart => exact ⟨0, 0, Nat.zero_le _, rfl, rfl, rfl⟩
  case round =>
    obtain ⟨k, v, hk, rfl, rfl, hv⟩ := hrel
    by_cases hlt : k < s.size
    · have hor := or_u32 v s[k].toNat k (by omega) (by rw [hv.out]; exact valF_lt _ _) s[k].toNat_lt
      obtain ⟨u, hu⟩ : ∃ u, u = v + s[k].toNat * 256 ^ k := ⟨_, rfl⟩
      rw [← hu] at hor
      have hor2 : bits .or .u32 (v : Int) (((s[k].toNat : Nat) : Int) % 4294967296 * 2 ^ (8 * k) % 4294967296) = (u : Int) := hor
      have HU : Hid (u = valF (bt s) (k + 1)) := by
        show u = _
        rw [hu, hv.out, valF, bt_eq s k hlt]
      clear hu
      go_wp2
      go_round
      case rel => exact ⟨k + 1, u, by omega, by go_num, rfl, HU⟩
      case measure => simp [intOf]; omega
    · obtain rfl : k = s.size := by omega
      go_wp2
      go_ret
      exact ⟨congrArg (fun x : Nat => Ending.returned (.int .u32 (x : Int))) hv.out, rfl⟩

set_option maxRecDepth 100000 in
set_option maxHeartbeats 1000000 in
theorem gather_u64 (s : ByteArray) (w : World) (hs : s.size ≤ 8) :
    Calls Tryd.prog 55 #[.string s] w fun e w' => e = .returned (.int .u64 (valF (bt s) s.size : Nat)) ∧ w' = w := by
  go_enter Tryd.func55, Tryd.ntmps55
  go_wp2
  go_loop [3, 7] (fun x t => ∃ k v : Nat, k ≤ s.size ∧ t = .int .i64 k ∧ x = .int .u64 v ∧ Hid (v = valF (bt s) k)) (fun _ t => s.size - (intOf t).toNat)
  case atStart => exact ⟨0, 0, Nat.zero_le _, rfl, rfl, rfl⟩
  case round =>
    obtain ⟨k, v, hk, rfl, rfl, hv⟩ := hrel
    by_cases hlt : k < s.size
    · have hor := or_u64 v s[k].toNat k (by omega) (by rw [hv.out]; exact valF_lt _ _) s[k].toNat_lt
      obtain ⟨u, hu⟩ : ∃ u, u = v + s[k].toNat * 256 ^ k := ⟨_, rfl⟩
      rw [← hu] at hor
      have HU : Hid (u = valF (bt s) (k + 1)) := by
        show u = _
        rw [hu, hv.out, valF, bt_eq s k hlt]
      clear hu
      go_wp2
      go_round
      case rel => exact ⟨k + 1, u, by omega, by go_num, rfl, HU⟩
      case measure => simp [intOf]; omega
    · obtain rfl : k = s.size := by omega
      go_wp2
      go_ret
      exact ⟨congrArg (fun x : Nat => Ending.returned (.int .u64 (x : Int))) hv.out, rfl⟩
end Go.Proofs.YtjpdjalhhokghaaDoor
