/- Contracts of both SumOf: they come to the same sum. -/
import Derived.Test.YtdcjddiigipdmaaName
namespace Go.Proofs.Ytdcjddiigipdmaa
open Go.RowKit

theorem ret_i64 {a b : Int} (h : a = b) : Ending.returned (.int .i64 a) = .returned (.int .i64 b) := by rw [h]

set_option maxHeartbeats 400000 in
theorem implSum_any (s : ByteArray) (w : World) (hs : s.size ≤ 65536) :
    Calls Try.prog 109 #[.string s] w fun e w' => e = .returned (.int .i64 (sumL s.data.toList)) ∧ w' = w := by
  go_enter Try.func109, Try.ntmps109
  go_wp2
  go_loop [3, 10] (fun n t => ∃ k : Nat, k ≤ s.size ∧ t = .int .i64 k ∧ n = .int .i64 (sumL (s.data.toList.take k))) (fun _ t => s.size - (intOf t).toNat)
  case atStart => exact ⟨0, Nat.zero_le _, rfl, rfl⟩
  case round =>
    obtain ⟨k, hk, rfl, rfl⟩ := hrel
    have hb := sumL_bd (s.data.toList.take k)
    by_cases hlt : k < s.size
    · have hsn := sumL_snoc (s.data.toList.take k) s[k]
      rw [← take_snoc s k hlt] at hsn
      have HS : Hid (sumL (s.data.toList.take (k + 1)) = (31 * sumL (s.data.toList.take k) + (s[k].toNat : Int)) % 65521) := hsn
      clear hsn
      have hc : (s[k].toNat : Int) < 256 := by have := s[k].toNat_lt; omega
      go_wp2
      go_round
      case rel => exact ⟨k + 1, by omega, by go_num, by rw [HS.out]⟩
      case measure => simp [intOf]; omega
    · go_wp2
      go_ret
      obtain rfl : k = s.size := by omega
      exact ⟨ret_i64 (by rw [take_all]), rfl⟩

set_option maxHeartbeats 400000 in
theorem specSum0_any (s : ByteArray) (w : World) (hs : s.size ≤ 65536) :
    Calls Try.prog 95 #[.string s] w fun e w' => e = .returned (.int .i64 (sumL s.data.toList)) ∧ w' = w := by
  go_enter Try.func95, Try.ntmps95
  go_wp2
  go_loop [3, 4] (fun n t => ∃ k : Nat, k ≤ s.size ∧ t = .int .i64 k ∧ n = .int .i64 (sumL (s.data.toList.take k))) (fun _ t => s.size - (intOf t).toNat)
  case atStart => exact ⟨0, Nat.zero_le _, rfl, rfl⟩
  case round =>
    obtain ⟨k, hk, rfl, rfl⟩ := hrel
    have hb := sumL_bd (s.data.toList.take k)
    by_cases hlt : k < s.size
    · have hsn := sumL_snoc (s.data.toList.take k) s[k]
      rw [← take_snoc s k hlt] at hsn
      have HS : Hid (sumL (s.data.toList.take (k + 1)) = (31 * sumL (s.data.toList.take k) + (s[k].toNat : Int)) % 65521) := hsn
      clear hsn
      have hc : (s[k].toNat : Int) < 256 := by have := s[k].toNat_lt; omega
      go_wp2
      go_round
      case rel => exact ⟨k + 1, by omega, by go_num, by rw [HS.out]⟩
      case measure => simp [intOf]; omega
    · go_wp2
      go_ret
      obtain rfl : k = s.size := by omega
      exact ⟨ret_i64 (by rw [take_all]), rfl⟩

/-- The sum as both SumOf tell it, of any text. -/
def sumT (s : ByteArray) : Int := if 65536 < s.size then 0 else sumL s.data.toList

theorem sumT_bd (s : ByteArray) : 0 ≤ sumT s ∧ sumT s < 65521 := by
  unfold sumT
  have := sumL_bd s.data.toList
  split <;> omega
theorem sumT_of (s : ByteArray) (h : s.size ≤ 65536) : sumT s = sumL s.data.toList := by
  unfold sumT; rw [if_neg (by omega)]
theorem sumT_empty : sumT { data := #[] } = 1 := by decide

theorem implSumT (s : ByteArray) (w : World) (hs : s.size ≤ maxLen) :
    Calls Try.prog 109 #[.string s] w fun e w' => e = .returned (.int .i64 (sumT s)) ∧ w' = w := by
  unfold maxLen at hs
  by_cases h : 65536 < s.size
  · go_enter Try.func109, Try.ntmps109
    go_wp2
    go_ret
    exact ⟨ret_i64 (by unfold sumT; rw [if_pos h]), rfl⟩
  · rw [show sumT s = sumL s.data.toList from by unfold sumT; rw [if_neg h]]
    exact implSum_any s w (by omega)

end Go.Proofs.Ytdcjddiigipdmaa
