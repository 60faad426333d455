/- How a form's number is taken out of a word: plain. Contracts of the model's bits and signs. Contracts of SignOf. How a form's number is taken out of a word: contracts. -/
import Derived.Test.YtdkiamcjicbmnaaDoorGXDecode1
import Derived.Test.YtdkiamcjicbmnaaDoorRows
import Derived.Test.YtdkiamcjicbmnaaDoorGXDecode0
import Derived.Test.YtdkiamcjicbmnaaDoorGXDecode4
namespace Go.Proofs.YtdkiamcjicbmnaaDoor
open Go.RowKit

theorem takE1 (w : Int) : (bits .or .i64 (bits .or .i64 (bits .or .i64 (bits .or .i64 0 (wrap64 (bits .and .i64 (w / 4096) 1048575 * 4096))) (wrap64 (bits .and .i64 w 0))) (wrap64 (bits .and .i64 w 0))) (wrap64 (bits .and .i64 w 0))) = w / 4096 % 1048576 * 4096 := by
  simp only [and_20, and_0]
  have p : 0 ≤ w / 4096 % 1048576 ∧ w / 4096 % 1048576 < 1048576 := by omega
  generalize w / 4096 % 1048576 = x0 at *
  rw [wrap_in (x0 * 4096) (by omega) (by omega)]
  rw [wrap_in 0 (by omega) (by omega)]
  rw [z_or (x0 * 4096) (by omega) (by omega)]
  rw [or_z (x0 * 4096) (by omega) (by omega)]
  rw [or_z (x0 * 4096) (by omega) (by omega)]
  rw [or_z (x0 * 4096) (by omega) (by omega)]
theorem takE2 (w : Int) : (bits .or .i64 (bits .or .i64 (bits .or .i64 (bits .or .i64 0 (wrap64 (bits .and .i64 (w / 4096) 255 * 4096))) (wrap64 (bits .and .i64 (w / 1048576) 1 * 2048))) (wrap64 (bits .and .i64 (w / 2097152) 1023 * 2))) (wrap64 (bits .and .i64 (w / 2147483648) 1 * 1048576))) = w / 4096 % 256 * 4096 + w / 1048576 % 2 * 2048 + w / 2097152 % 1024 * 2 + w / 2147483648 % 2 * 1048576 := by
  simp only [and_1, and_8, and_10]
  have p : 0 ≤ w / 4096 % 256 ∧ w / 4096 % 256 < 256 := by omega
  have q : 0 ≤ w / 1048576 % 2 ∧ w / 1048576 % 2 < 2 := by omega
  have r : 0 ≤ w / 2097152 % 1024 ∧ w / 2097152 % 1024 < 1024 := by omega
  have s : 0 ≤ w / 2147483648 % 2 ∧ w / 2147483648 % 2 < 2 := by omega
  generalize w / 4096 % 256 = x0 at *
  generalize w / 1048576 % 2 = x1 at *
  generalize w / 2097152 % 1024 = x2 at *
  generalize w / 2147483648 % 2 = x3 at *
  rw [wrap_in (x0 * 4096) (by omega) (by omega)]
  rw [wrap_in (x1 * 2048) (by omega) (by omega)]
  rw [wrap_in (x2 * 2) (by omega) (by omega)]
  rw [wrap_in (x3 * 1048576) (by omega) (by omega)]
  rw [z_or (x0 * 4096) (by omega) (by omega)]
  rw [i64_or_gap 11 1 2048 4096 (by decide) (by decide) (x0 * 4096) (x1 * 2048) (by omega) (by omega) (by omega) (by omega) (by omega) (by omega) (by decide)]
  rw [i64_or_gap 1 10 2 2048 (by decide) (by decide) (x0 * 4096 + x1 * 2048) (x2 * 2) (by omega) (by omega) (by omega) (by omega) (by omega) (by omega) (by decide)]
  rw [i64_or_gap 20 1 1048576 2097152 (by decide) (by decide) (x0 * 4096 + x1 * 2048 + x2 * 2) (x3 * 1048576) (by omega) (by omega) (by omega) (by omega) (by omega) (by omega) (by decide)]
theorem takE3 (w : Int) : (bits .or .i64 (bits .or .i64 (bits .or .i64 (bits .or .i64 0 (wrap64 (bits .and .i64 (w / 1048576) 4095))) (wrap64 (bits .and .i64 w 0))) (wrap64 (bits .and .i64 w 0))) (wrap64 (bits .and .i64 w 0))) = w / 1048576 % 4096 := by
  simp only [and_12, and_0]
  have p : 0 ≤ w / 1048576 % 4096 ∧ w / 1048576 % 4096 < 4096 := by omega
  generalize w / 1048576 % 4096 = x0 at *
  rw [wrap_in (x0) (by omega) (by omega)]
  rw [wrap_in 0 (by omega) (by omega)]
  rw [z_or (x0) (by omega) (by omega)]
  rw [or_z (x0) (by omega) (by omega)]
  rw [or_z (x0) (by omega) (by omega)]
  rw [or_z (x0) (by omega) (by omega)]
theorem takE4 (w : Int) : (bits .or .i64 (bits .or .i64 (bits .or .i64 (bits .or .i64 0 (wrap64 (bits .and .i64 (w / 128) 1 * 2048))) (wrap64 (bits .and .i64 (w / 256) 15 * 2))) (wrap64 (bits .and .i64 (w / 33554432) 63 * 32))) (wrap64 (bits .and .i64 (w / 2147483648) 1 * 4096))) = w / 128 % 2 * 2048 + w / 256 % 16 * 2 + w / 33554432 % 64 * 32 + w / 2147483648 % 2 * 4096 := by
  simp only [and_1, and_4, and_6]
  have p : 0 ≤ w / 128 % 2 ∧ w / 128 % 2 < 2 := by omega
  have q : 0 ≤ w / 256 % 16 ∧ w / 256 % 16 < 16 := by omega
  have r : 0 ≤ w / 33554432 % 64 ∧ w / 33554432 % 64 < 64 := by omega
  have s : 0 ≤ w / 2147483648 % 2 ∧ w / 2147483648 % 2 < 2 := by omega
  generalize w / 128 % 2 = x0 at *
  generalize w / 256 % 16 = x1 at *
  generalize w / 33554432 % 64 = x2 at *
  generalize w / 2147483648 % 2 = x3 at *
  rw [wrap_in (x0 * 2048) (by omega) (by omega)]
  rw [wrap_in (x1 * 2) (by omega) (by omega)]
  rw [wrap_in (x2 * 32) (by omega) (by omega)]
  rw [wrap_in (x3 * 4096) (by omega) (by omega)]
  rw [z_or (x0 * 2048) (by omega) (by omega)]
  rw [i64_or_gap 1 4 2 32 (by decide) (by decide) (x0 * 2048) (x1 * 2) (by omega) (by omega) (by omega) (by omega) (by omega) (by omega) (by decide)]
  rw [i64_or_gap 5 6 32 2048 (by decide) (by decide) (x0 * 2048 + x1 * 2) (x2 * 32) (by omega) (by omega) (by omega) (by omega) (by omega) (by omega) (by decide)]
  rw [i64_or_gap 12 1 4096 8192 (by decide) (by decide) (x0 * 2048 + x1 * 2 + x2 * 32) (x3 * 4096) (by omega) (by omega) (by omega) (by omega) (by omega) (by omega) (by decide)]
theorem takE5 (w : Int) : (bits .or .i64 (bits .or .i64 (bits .or .i64 (bits .or .i64 0 (wrap64 (bits .and .i64 (w / 128) 31))) (wrap64 (bits .and .i64 (w / 33554432) 127 * 32))) (wrap64 (bits .and .i64 w 0))) (wrap64 (bits .and .i64 w 0))) = w / 128 % 32 + w / 33554432 % 128 * 32 := by
  simp only [and_5, and_7, and_0]
  have p : 0 ≤ w / 128 % 32 ∧ w / 128 % 32 < 32 := by omega
  have q : 0 ≤ w / 33554432 % 128 ∧ w / 33554432 % 128 < 128 := by omega
  generalize w / 128 % 32 = x0 at *
  generalize w / 33554432 % 128 = x1 at *
  rw [wrap_in (x0) (by omega) (by omega)]
  rw [wrap_in (x1 * 32) (by omega) (by omega)]
  rw [wrap_in 0 (by omega) (by omega)]
  rw [z_or (x0) (by omega) (by omega)]
  rw [i64_or_gap 5 7 32 4096 (by decide) (by decide) (x0) (x1 * 32) (by omega) (by omega) (by omega) (by omega) (by omega) (by omega) (by decide)]
  rw [or_z (x0 + x1 * 32) (by omega) (by omega)]
  rw [or_z (x0 + x1 * 32) (by omega) (by omega)]
theorem takE6 (w : Int) : (bits .or .i64 (bits .or .i64 (bits .or .i64 (bits .or .i64 0 (wrap64 (bits .and .i64 (w / 1048576) 63))) (wrap64 (bits .and .i64 w 0))) (wrap64 (bits .and .i64 w 0))) (wrap64 (bits .and .i64 w 0))) = w / 1048576 % 64 := by
  simp only [and_6, and_0]
  have p : 0 ≤ w / 1048576 % 64 ∧ w / 1048576 % 64 < 64 := by omega
  generalize w / 1048576 % 64 = x0 at *
  rw [wrap_in (x0) (by omega) (by omega)]
  rw [wrap_in 0 (by omega) (by omega)]
  rw [z_or (x0) (by omega) (by omega)]
  rw [or_z (x0) (by omega) (by omega)]
  rw [or_z (x0) (by omega) (by omega)]
  rw [or_z (x0) (by omega) (by omega)]
theorem takE7 (w : Int) : (bits .or .i64 (bits .or .i64 (bits .or .i64 (bits .or .i64 0 (wrap64 (bits .and .i64 (w / 1048576) 31))) (wrap64 (bits .and .i64 w 0))) (wrap64 (bits .and .i64 w 0))) (wrap64 (bits .and .i64 w 0))) = w / 1048576 % 32 := by
  simp only [and_5, and_0]
  have p : 0 ≤ w / 1048576 % 32 ∧ w / 1048576 % 32 < 32 := by omega
  generalize w / 1048576 % 32 = x0 at *
  rw [wrap_in (x0) (by omega) (by omega)]
  rw [wrap_in 0 (by omega) (by omega)]
  rw [z_or (x0) (by omega) (by omega)]
  rw [or_z (x0) (by omega) (by omega)]
  rw [or_z (x0) (by omega) (by omega)]
  rw [or_z (x0) (by omega) (by omega)]
theorem takE8 (w : Int) : (bits .or .i64 (bits .or .i64 (bits .or .i64 (bits .or .i64 0 (wrap64 (bits .and .i64 w 0))) (wrap64 (bits .and .i64 w 0))) (wrap64 (bits .and .i64 w 0))) (wrap64 (bits .and .i64 w 0))) = 0 := by
  simp only [and_0]
  rw [wrap_in 0 (by omega) (by omega), or_z 0 (by omega) (by omega), or_z 0 (by omega) (by omega), or_z 0 (by omega) (by omega), or_z 0 (by omega) (by omega)]
end Go.Proofs.YtdkiamcjicbmnaaDoor

namespace Go.Proofs.YtdkiamcjicbmnaaDoor
open Go.RowKit
set_option linter.unusedVariables false

theorem ret_ints {a b x y : Int} (h : a = b) (k : x = y) : Ending.returned (.tuple #[.int .i64 a, .int .i64 x]) = .returned (.tuple #[.int .i64 b, .int .i64 y]) := by rw [h, k]

theorem bit_any (v : Int) (j : Nat) (w : World) (hj : j ≤ 63) :
    Calls Tryd.prog 62 #[.int .i64 v, .int .i64 j] w fun e w' => e = .returned (.int .i64 (bitT v j)) ∧ w' = w := by
  have hu := wrap_u64 v
  have hb := bit_u64 v j (by omega)
  have hn : (0 : Int) ≤ (u64 v : Int) / 2 ^ j := Int.ediv_nonneg (by omega) (Int.le_of_lt (pow_pos j))
  rcases bitT_bd v j with h | h
  · have r1 : (u64 v : Int) / 2 ^ j % 2 = 0 := hb.trans h
    have r2 : ((u64 v : Int) / 2 ^ j).tmod 2 = 0 := by rw [Int.tmod_eq_emod_of_nonneg hn]; exact r1
    have H : Hid (bitT v j = 0) := h
    clear hb h hn
    go_enter Tryd.func62, Tryd.ntmps62
    go_wp2
    go_ret
    exact ⟨congrArg (fun x => Ending.returned (.int .i64 x)) H.out.symm, rfl⟩
  · have r1 : (u64 v : Int) / 2 ^ j % 2 = 1 := hb.trans h
    have r2 : ((u64 v : Int) / 2 ^ j).tmod 2 = 1 := by rw [Int.tmod_eq_emod_of_nonneg hn]; exact r1
    have H : Hid (bitT v j = 1) := h
    clear hb h hn
    go_enter Tryd.func62, Tryd.ntmps62
    go_wp2
    go_ret
    exact ⟨congrArg (fun x => Ending.returned (.int .i64 x)) H.out.symm, rfl⟩

set_option maxRecDepth 100000 in
set_option maxHeartbeats 1000000 in
theorem specSign0 (v : Int) (c : Nat) (w : World) (h0 : 1 ≤ c) (h1 : c ≤ 64) :
    Calls Tryd.prog 73 #[.int .i64 v, .int .i64 c] w fun e w' => e = .returned (.int .i64 (sgn v c)) ∧ w' = w := by
  go_enter Tryd.func73, Tryd.ntmps73
  go_wp2
  go_loop [5, 6] (fun x t => ∃ k o : Nat, k ≤ 64 ∧ t = .int .i64 ((k : Int) - 1) ∧ x = .int .u64 (o : Int) ∧ Hid (o = sbits v c / 2 ^ k)) (fun _ t => (intOf t + 1).toNat)
  case atStart => exact ⟨64, 0, Nat.le_refl _, rfl, rfl, (sbits_top v c).symm⟩
  case round =>
    obtain ⟨k, o, hk, rfl, rfl, ho⟩ := hrel
    by_cases hlt : 1 ≤ k
    · obtain ⟨j, rfl⟩ : ∃ j, k = j + 1 := ⟨k - 1, by omega⟩
      have hol : o ≤ 9223372036854775807 := by rw [ho.out]; exact sbits_half v c j
      have hst := sbits_step v c j h0 (by omega)
      rw [← ho.out] at hst
      have HST : Hid (((sbits v c / 2 ^ j : Nat) : Int) = 2 * (o : Int) + bitT v (min j (c - 1))) := hst
      clear hst ho
      have ej : ((j + 1 : Nat) : Int) - 1 = (j : Int) := by omega
      by_cases hjc : j ≤ c - 1
      · rw [Nat.min_eq_left hjc] at HST
        have hjc' : (j : Int) ≤ (c : Int) - 1 := by omega
        have hbd := bitT_bd v j
        go_wp2_with fail
        refine (bit_any v j _ (by omega)).mono ?_
        rintro e w2 ⟨rfl, rfl⟩
        generalize bitT v j = b at *
        obtain ⟨b, rfl⟩ := Int.eq_ofNat_of_zero_le (show 0 ≤ b by omega)
        have hb1 : b ≤ 1 := by omega
        clear hbd hjc hjc'
        go_wp2
        go_round
        case rel => exact ⟨j, 2 * o + b, by omega, rfl, by go_num, by have := HST.out; show _ = _; omega⟩
        case measure => simp [intOf]
      · rw [Nat.min_eq_right (by omega)] at HST
        obtain ⟨m, hm⟩ : ∃ m, m = c - 1 := ⟨_, rfl⟩
        rw [← hm] at HST hjc
        have em : (c : Int) - 1 = (m : Int) := by omega
        have hm63 : m ≤ 63 := by omega
        clear hm
        have hjc' : (m : Int) < (j : Int) := by omega
        have hbd := bitT_bd v m
        go_wp2_with fail
        refine (bit_any v m _ hm63).mono ?_
        rintro e w2 ⟨rfl, rfl⟩
        generalize bitT v m = b at *
        obtain ⟨b, rfl⟩ := Int.eq_ofNat_of_zero_le (show 0 ≤ b by omega)
        have hb1 : b ≤ 1 := by omega
        clear hbd hjc hjc'
        go_wp2
        go_round
        case rel => exact ⟨j, 2 * o + b, by omega, rfl, by go_num, by have := HST.out; show _ = _; omega⟩
        case measure => simp [intOf]
    · obtain rfl : k = 0 := by omega
      have ho' : o = sbits v c := by rw [ho.out]; simp
      have hz : IntKind.i64.wrap (o : Int) = sgn v c := by rw [ho']; exact sbits_back v c h0 h1
      clear ho ho'
      go_wp2
      go_ret
      exact ⟨rfl, rfl⟩

end Go.Proofs.YtdkiamcjicbmnaaDoor

namespace Go.Proofs.YtdkiamcjicbmnaaDoor
open Go.RowKit
set_option linter.unusedVariables false

theorem sign_bad_impl (v c : Int) (w : World) (hL : Laid w) (h : c < 1 ∨ 64 < c) :
    Calls Tryd.prog 71 #[.int .i64 v, .int .i64 c] w fun e w' => e = .returned (.tuple #[.int .i64 0, .int .i64 4]) ∧ Below w.heap.size w w' := by
  obtain ⟨a0, a1, hL⟩ := hL
  go_enter Tryd.func71, Tryd.ntmps71
  go_wp2_with fail
  refine (inside_no _ c 1 64 w a0 a1 hL h).mono ?_
  rintro e w1 ⟨rfl, rfl⟩
  go_wp2_with fail
  refine (code_range _ _ a0 a1 hL).mono ?_
  rintro e w2 ⟨rfl, hb⟩
  clear hL h
  go_wp2
  go_ret2
  exact ⟨rfl, hb⟩

theorem sign_ok_impl (v : Int) (c : Nat) (w : World) (h0 : 1 ≤ c) (h1 : c ≤ 64) :
    Calls Tryd.prog 71 #[.int .i64 v, .int .i64 c] w fun e w' => e = .returned (.tuple #[.int .i64 (sgn v c), .int .i64 0]) ∧ w' = w := by
  obtain ⟨d, hd⟩ : ∃ d, d = 64 - c := ⟨_, rfl⟩
  have hd1 : (64 : Int) - (c : Int) = (d : Int) := by omega
  have hd2 : (d : Int) ≤ 64 := by omega
  have HS : Hid (((v * 2 ^ d + 9223372036854775808) % 18446744073709551616 - 9223372036854775808) / 2 ^ d = sgn v c) := sgn_shifts v c d (by omega) h0
  clear hd
  go_enter Tryd.func71, Tryd.ntmps71
  go_wp2_with fail
  refine (inside_ok _ (c : Int) 1 64 w (by omega) (by omega)).mono ?_
  rintro e w1 ⟨rfl, rfl⟩
  go_wp2
  go_ret2
  refine ⟨ret_ints ?_ rfl, rfl⟩
  show wrap64 (v * 2 ^ d) / 2 ^ d = sgn v c
  unfold wrap64
  exact HS.out

end Go.Proofs.YtdkiamcjicbmnaaDoor

namespace Go.Proofs.YtdkiamcjicbmnaaDoor
open Go.RowKit
set_option linter.unusedVariables false
set_option maxRecDepth 100000 in
set_option maxHeartbeats 4000000 in
theorem take1 (v : Int) (w : World) :
    Calls Tryd.prog 64 #[rule1, .int .i64 v] w fun e w' => e = .returned (.int .i64 (takeF 1 v)) ∧ Below w.heap.size w w' := by
  have ix0 := fun w : World => idx0 12 20 12 0 0 0 0 0 0 0 0 0 w
  have ix1 := fun w : World => idx1 12 20 12 0 0 0 0 0 0 0 0 0 w
  have ix2 := fun w : World => idx2 12 20 12 0 0 0 0 0 0 0 0 0 w
  have ix3 := fun w : World => idx3 12 20 12 0 0 0 0 0 0 0 0 0 w
  unfold rule1
  go_enter Tryd.func64, Tryd.ntmps64
  go_wp2
  refine wp_loop_rounds 5 ?_
  rw [rounds_succ]
  go_wp2_with fail
  go_quiet ((go_at_call 58; first | exact Calls.quiet_of_same (low0 _) | exact Calls.quiet_of_same (low1 _) | exact Calls.quiet_of_same (low4 _) | exact Calls.quiet_of_same (low5 _) | exact Calls.quiet_of_same (low6 _) | exact Calls.quiet_of_same (low7 _) | exact Calls.quiet_of_same (low8 _) | exact Calls.quiet_of_same (low10 _) | exact Calls.quiet_of_same (low12 _) | exact Calls.quiet_of_same (low20 _)))
  go_wp2
  rw [rounds_succ]
  go_wp2_with fail
  go_quiet ((go_at_call 58; first | exact Calls.quiet_of_same (low0 _) | exact Calls.quiet_of_same (low1 _) | exact Calls.quiet_of_same (low4 _) | exact Calls.quiet_of_same (low5 _) | exact Calls.quiet_of_same (low6 _) | exact Calls.quiet_of_same (low7 _) | exact Calls.quiet_of_same (low8 _) | exact Calls.quiet_of_same (low10 _) | exact Calls.quiet_of_same (low12 _) | exact Calls.quiet_of_same (low20 _)))
  go_wp2
  rw [rounds_succ]
  go_wp2_with fail
  go_quiet ((go_at_call 58; first | exact Calls.quiet_of_same (low0 _) | exact Calls.quiet_of_same (low1 _) | exact Calls.quiet_of_same (low4 _) | exact Calls.quiet_of_same (low5 _) | exact Calls.quiet_of_same (low6 _) | exact Calls.quiet_of_same (low7 _) | exact Calls.quiet_of_same (low8 _) | exact Calls.quiet_of_same (low10 _) | exact Calls.quiet_of_same (low12 _) | exact Calls.quiet_of_same (low20 _)))
  go_wp2
  rw [rounds_succ]
  go_wp2_with fail
  go_quiet ((go_at_call 58; first | exact Calls.quiet_of_same (low0 _) | exact Calls.quiet_of_same (low1 _) | exact Calls.quiet_of_same (low4 _) | exact Calls.quiet_of_same (low5 _) | exact Calls.quiet_of_same (low6 _) | exact Calls.quiet_of_same (low7 _) | exact Calls.quiet_of_same (low8 _) | exact Calls.quiet_of_same (low10 _) | exact Calls.quiet_of_same (low12 _) | exact Calls.quiet_of_same (low20 _)))
  go_wp2
  rw [rounds_succ]
  clear ix0 ix1 ix2 ix3
  go_wp2_with fail
  refine (sign_ok_impl _ 32 _ (by decide) (by decide)).mono ?_
  rintro e w1 ⟨rfl, rfl⟩
  go_wp2
  go_ret
  refine ⟨congrArg (fun x => Ending.returned (.int .i64 x)) (congrArg (fun x => sgn x 32) (takE1 v)), ?_⟩
  exact bdN ((bdN ((bdN ((bdN (((Below.refl _ _).alloc (Nat.le_refl _) _).alloc (by simp; try omega) _) _).alloc (by simp; try omega) _) _).alloc (by simp; try omega) _) _).alloc (by simp; try omega) _) _
set_option maxRecDepth 100000 in
set_option maxHeartbeats 4000000 in
theorem take2 (v : Int) (w : World) :
    Calls Tryd.prog 64 #[rule2, .int .i64 v] w fun e w' => e = .returned (.int .i64 (takeF 2 v)) ∧ Below w.heap.size w w' := by
  have ix0 := fun w : World => idx0 12 8 12 11 1 20 1 10 21 20 1 31 w
  have ix1 := fun w : World => idx1 12 8 12 11 1 20 1 10 21 20 1 31 w
  have ix2 := fun w : World => idx2 12 8 12 11 1 20 1 10 21 20 1 31 w
  have ix3 := fun w : World => idx3 12 8 12 11 1 20 1 10 21 20 1 31 w
  unfold rule2
  go_enter Tryd.func64, Tryd.ntmps64
  go_wp2
  refine wp_loop_rounds 5 ?_
  rw [rounds_succ]
  go_wp2_with fail
  go_quiet ((go_at_call 58; first | exact Calls.quiet_of_same (low0 _) | exact Calls.quiet_of_same (low1 _) | exact Calls.quiet_of_same (low4 _) | exact Calls.quiet_of_same (low5 _) | exact Calls.quiet_of_same (low6 _) | exact Calls.quiet_of_same (low7 _) | exact Calls.quiet_of_same (low8 _) | exact Calls.quiet_of_same (low10 _) | exact Calls.quiet_of_same (low12 _) | exact Calls.quiet_of_same (low20 _)))
  go_wp2
  rw [rounds_succ]
  go_wp2_with fail
  go_quiet ((go_at_call 58; first | exact Calls.quiet_of_same (low0 _) | exact Calls.quiet_of_same (low1 _) | exact Calls.quiet_of_same (low4 _) | exact Calls.quiet_of_same (low5 _) | exact Calls.quiet_of_same (low6 _) | exact Calls.quiet_of_same (low7 _) | exact Calls.quiet_of_same (low8 _) | exact Calls.quiet_of_same (low10 _) | exact Calls.quiet_of_same (low12 _) | exact Calls.quiet_of_same (low20 _)))
  go_wp2
  rw [rounds_succ]
  go_wp2_with fail
  go_quiet ((go_at_call 58; first | exact Calls.quiet_of_same (low0 _) | exact Calls.quiet_of_same (low1 _) | exact Calls.quiet_of_same (low4 _) | exact Calls.quiet_of_same (low5 _) | exact Calls.quiet_of_same (low6 _) | exact Calls.quiet_of_same (low7 _) | exact Calls.quiet_of_same (low8 _) | exact Calls.quiet_of_same (low10 _) | exact Calls.quiet_of_same (low12 _) | exact Calls.quiet_of_same (low20 _)))
  go_wp2
  rw [rounds_succ]
  go_wp2_with fail
  go_quiet ((go_at_call 58; first | exact Calls.quiet_of_same (low0 _) | exact Calls.quiet_of_same (low1 _) | exact Calls.quiet_of_same (low4 _) | exact Calls.quiet_of_same (low5 _) | exact Calls.quiet_of_same (low6 _) | exact Calls.quiet_of_same (low7 _) | exact Calls.quiet_of_same (low8 _) | exact Calls.quiet_of_same (low10 _) | exact Calls.quiet_of_same (low12 _) | exact Calls.quiet_of_same (low20 _)))
  go_wp2
  rw [rounds_succ]
  clear ix0 ix1 ix2 ix3
  go_wp2_with fail
  refine (sign_ok_impl _ 21 _ (by decide) (by decide)).mono ?_
  rintro e w1 ⟨rfl, rfl⟩
  go_wp2
  go_ret
  refine ⟨congrArg (fun x => Ending.returned (.int .i64 x)) (congrArg (fun x => sgn x 21) (takE2 v)), ?_⟩
  exact bdN ((bdN ((bdN ((bdN (((Below.refl _ _).alloc (Nat.le_refl _) _).alloc (by simp; try omega) _) _).alloc (by simp; try omega) _) _).alloc (by simp; try omega) _) _).alloc (by simp; try omega) _) _
end Go.Proofs.YtdkiamcjicbmnaaDoor
