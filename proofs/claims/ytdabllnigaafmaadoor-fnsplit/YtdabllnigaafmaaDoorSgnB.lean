/- Contracts of the model's bits and signs. -/
import Derived.Test.YtdabllnigaafmaaDoorRows
import Derived.Test.YtdabllnigaafmaaDoorSgnR
namespace Go.Proofs.YtdabllnigaafmaaDoor
open Go.RowKit
set_option linter.unusedVariables false

theorem bit_any (v : Int) (j : Nat) (w : World) (hj : j ≤ 63) :
    Calls Tryd.prog 39 #[.int .i64 v, .int .i64 j] w fun e w' => e = .returned (.int .i64 (bitT v j)) ∧ w' = w := by
  have hu := wrap_u64 v
  have hb := bit_u64 v j (by omega)
  have hn : (0 : Int) ≤ (u64 v : Int) / 2 ^ j := Int.ediv_nonneg (by omega) (Int.le_of_lt (pow_pos j))
  rcases bitT_bd v j with h | h
  · have r1 : (u64 v : Int) / 2 ^ j % 2 = 0 := hb.trans h
    have r2 : ((u64 v : Int) / 2 ^ j).tmod 2 = 0 := by rw [Int.tmod_eq_emod_of_nonneg hn]; exact r1
    have H : Hid (bitT v j = 0) := h
    clear hb h hn
    go_enter Tryd.func39, Tryd.ntmps39
    go_wp2
    go_ret
    exact ⟨congrArg (fun x => Ending.returned (.int .i64 x)) H.out.symm, rfl⟩
  · have r1 : (u64 v : Int) / 2 ^ j % 2 = 1 := hb.trans h
    have r2 : ((u64 v : Int) / 2 ^ j).tmod 2 = 1 := by rw [Int.tmod_eq_emod_of_nonneg hn]; exact r1
    have H : Hid (bitT v j = 1) := h
    clear hb h hn
    go_enter Tryd.func39, Tryd.ntmps39
    go_wp2
    go_ret
    exact ⟨congrArg (fun x => Ending.returned (.int .i64 x)) H.out.symm, rfl⟩

set_option maxRecDepth 100000 in
set_option maxHeartbeats 1000000 in
theorem specSign0 (v : Int) (c : Nat) (w : World) (h0 : 1 ≤ c) (h1 : c ≤ 64) :
    Calls Tryd.prog 35 #[.int .i64 v, .int .i64 c] w fun e w' => e = .returned (.int .i64 (sgn v c)) ∧ w' = w := by
  go_enter Tryd.func35, Tryd.ntmps35
  go_wp2
  go_loop [5, 6] (fun x t => ∃ k o : Nat, k ≤ 64 ∧ t = .int .i64 ((k : Int) - 1) ∧ x = .int .u64 (o : Int) ∧ Hid (o = sbits v c / 2 ^ k)) (fun _ t => (intOf t + 1).toNat)
  case atStart => exact ⟨64, 0, Nat.le_refl _, rfl, rfl, (sbits_top v c).symm⟩
  case round =>
    obtain ⟨k, o, hk, rfl, rfl, ho⟩ := hrel
    by_cases hlt : 1 ≤ k
    · obtain ⟨j, rfl⟩ : ∃ j, k = j + 1 := ⟨k - 1, by omega⟩
      have hol : o ≤ 9223372036854775807 := by rw [ho.out]; exact sbits_half v c j
      have hst := sbits_step v c j h0 (by omega)
      rw [← ho.out] at hst
      have HST : Hid (((sbits v c / 2 ^ j : Nat) : Int) = 2 * (o : Int) + bitT v (min j (c - 1))) := hst
      clear hst ho
      have ej : ((j + 1 : Nat) : Int) - 1 = (j : Int) := by omega
      by_cases hjc : j ≤ c - 1
      · rw [Nat.min_eq_left hjc] at HST
        have hjc' : (j : Int) ≤ (c : Int) - 1 := by omega
        have hbd := bitT_bd v j
        go_wp2_with fail
        refine (bit_any v j _ (by omega)).mono ?_
        rintro e w2 ⟨rfl, rfl⟩
        generalize bitT v j = b at *
        obtain ⟨b, rfl⟩ := Int.eq_ofNat_of_zero_le (show 0 ≤ b by omega)
        have hb1 : b ≤ 1 := by omega
        clear hbd hjc hjc'
        go_wp2
        go_round
        case rel => exact ⟨j, 2 * o + b, by omega, rfl, by go_num, by have := HST.out; show _ = _; omega⟩
        case measure => simp [intOf]
      · rw [Nat.min_eq_right (by omega)] at HST
        obtain ⟨m, hm⟩ : ∃ m, m = c - 1 := ⟨_, rfl⟩
        rw [← hm] at HST hjc
        have em : (c : Int) - 1 = (m : Int) := by omega
        have hm63 : m ≤ 63 := by omega
        clear hm
        have hjc' : (m : Int) < (j : Int) := by omega
        have hbd := bitT_bd v m
        go_wp2_with fail
        refine (bit_any v m _ hm63).mono ?_
        rintro e w2 ⟨rfl, rfl⟩
        generalize bitT v m = b at *
        obtain ⟨b, rfl⟩ := Int.eq_ofNat_of_zero_le (show 0 ≤ b by omega)
        have hb1 : b ≤ 1 := by omega
        clear hbd hjc hjc'
        go_wp2
        go_round
        case rel => exact ⟨j, 2 * o + b, by omega, rfl, by go_num, by have := HST.out; show _ = _; omega⟩
        case measure => simp [intOf]
    · obtain rfl : k = 0 := by omega
      have ho' : o = sbits v c := by rw [ho.out]; simp
      have hz : IntKind.i64.wrap (o : Int) = sgn v c := by rw [ho']; exact sbits_back v c h0 h1
      clear ho ho'
      go_wp2
      go_ret
      exact ⟨rfl, rfl⟩

end Go.Proofs.YtdabllnigaafmaaDoor
