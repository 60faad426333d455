/- The model's shifts: contracts. -/
import Derived.Test.YtmahjgaaahkakaaAluP
import Derived.Test.YtmahjgaaahkakaaSgnB
import Derived.Test.YtmahjgaaahkakaaWidA
namespace Go.Proofs.Ytmahjgaaahkakaa
open Go.RowKit
set_option linter.unusedVariables false

theorem sh_end (X : Int) (o c : Nat) (hc : c ≤ 64) (h : (o : Int) = X % 2 ^ c) : sgn (wrap64 (o : Int)) c = sgn X c := by
  rw [sgn_wrap _ c hc, h, sgn_mod]
theorem pow_nat (i : Nat) (h : i ≤ 63) : (1 : Int) ≤ 2 ^ i ∧ (2 : Int) ^ i ≤ 9223372036854775808 := by
  have h1 := pow_pos i
  have h2 : (2 : Int) ^ i ≤ 2 ^ 63 := pow_le h
  have h3 : (2 : Int) ^ 63 = 9223372036854775808 := rfl
  omega
theorem low_bd (X : Int) (i : Nat) (h : i ≤ 63) : X % 2 ^ i + 2 ^ i ≤ 18446744073709551615 ∧ 0 ≤ X % 2 ^ i := by
  have h0 := Int.emod_nonneg X (Int.ne_of_gt (pow_pos i))
  have h1 := Int.emod_lt_of_pos X (pow_pos i)
  have h2 := pow_nat i h
  omega
theorem hide {p : Prop} (h : p) : Hid p := h
theorem u64_id (x : Int) (h0 : 0 ≤ x) (h1 : x ≤ 18446744073709551615) : IntKind.u64.wrap x = x := by
  rw [IntKind.wrap_u64]; omega

set_option maxRecDepth 100000 in
set_option maxHeartbeats 4000000 in
theorem shC0 (a : Int) (n c : Nat) (w : World) (hc : c = 32 ∨ c = 64) (hn : n < c) :
    Calls Try.prog 93 #[.int .i64 0, .int .i64 a, .int .i64 n, .int .i64 c] w fun e w' => e = .returned (.int .i64 (sgn (shX 0 a n c) c)) ∧ w' = w := by
  have hc1 : 1 ≤ c := by omega
  have hc2 : c ≤ 64 := by omega
  clear hc
  have hbit := fun i => sh0_bit a n c i
  have hend := fun o => sh_end (shX 0 a n c) o c hc2
  have hstep := fun i => low_step (shX 0 a n c) i
  have hlb := fun i => low_bd (shX 0 a n c) i
  generalize shX 0 a n c = X at *
  have HBIT := hide hbit
  have HEND := hide hend
  have HSTEP := hide hstep
  have HLB := hide hlb
  clear hbit hend hstep hlb
  go_enter Try.func93, Try.ntmps93
  go_wp2
  go_loop [9, 10] (fun x t => ∃ i o : Nat, i ≤ c ∧ t = .int .i64 (i : Int) ∧ x = .int .u64 (o : Int) ∧ Hid ((o : Int) = X % 2 ^ i)) (fun _ t => c - (intOf t).toNat)
  case atStart => exact ⟨0, 0, Nat.zero_le _, rfl, rfl, by show _ = _; simp [Int.emod_one]⟩
  case round =>
    obtain ⟨i, o, hi, rfl, rfl, ho⟩ := hrel
    by_cases hlt : i < c
    · have HL : Hid ((o : Int) + 2 ^ i ≤ 18446744073709551615 ∧ (0 : Int) ≤ o) := by
        show _ ∧ _
        rw [ho.out]
        exact HLB.out i (by omega)
      have hst := HSTEP.out i
      rw [HBIT.out i, ← ho.out] at hst
      clear HSTEP HBIT HLB HEND ho
      by_cases hk : n ≤ i
      · rw [if_pos hk] at hst
        obtain ⟨j, hj⟩ : ∃ j, j = i - n := ⟨_, rfl⟩
        rw [← hj] at hst
        have HST := hide hst
        have ej : (i : Int) - (n : Int) = (j : Int) := by omega
        have hjc : (j : Int) < (c : Int) := by omega
        clear hst hj
        go_wp2_with fail
        refine (bit_any a j _ (by omega)).mono ?_
        rintro e w2 ⟨rfl, rfl⟩
        have hbd := bitT_bd a j
        generalize bitT a j = b at *
        obtain ⟨b, rfl⟩ := Int.eq_ofNat_of_zero_le (show 0 ≤ b by omega)
        have hb1 : b ≤ 1 := by omega
        have hm : IntKind.u64.wrap ((b : Int) * 2 ^ i) = (b : Int) * 2 ^ i := by
          have hp := pow_nat i (by omega)
          rcases (show b = 0 ∨ b = 1 by omega) with rfl | rfl
          · rw [show ((0 : Nat) : Int) * 2 ^ i = 0 from Int.zero_mul _]; rfl
          · rw [show ((1 : Nat) : Int) * 2 ^ i = 2 ^ i from Int.one_mul _]; exact u64_id _ (by omega) (by omega)
        have hn : IntKind.u64.wrap ((o : Int) + (b : Int) * 2 ^ i) = (o : Int) + (b : Int) * 2 ^ i := by
          have hp := pow_nat i (by omega)
          have hl := HL.out
          rcases (show b = 0 ∨ b = 1 by omega) with rfl | rfl
          · rw [show ((0 : Nat) : Int) * 2 ^ i = 0 from Int.zero_mul _]; exact u64_id _ (by omega) (by omega)
          · rw [show ((1 : Nat) : Int) * 2 ^ i = 2 ^ i from Int.one_mul _]; exact u64_id _ (by omega) (by omega)
        clear hbd
        go_wp2
        go_round
        case rel =>
          have hst := HST.out
          refine ⟨i + 1, o + b * 2 ^ i, by omega, by go_num, ?_, by show _ = _; rw [hst]; push_cast; rfl⟩
          refine word_eq ?_; push_cast; rfl
        case measure => simp [intOf]; omega
      · rw [if_neg hk] at hst
        have HST := hide hst
        have hneg : (i : Int) - (n : Int) < 0 := by omega
        clear hst hk
        have hz : IntKind.u64.wrap ((o : Int)) = (o : Int) := u64_id _ (by omega) (by have := HL.out; have := pow_nat i (by omega); omega)
        go_wp2
        go_round
        case rel =>
          have hst := HST.out
          refine ⟨i + 1, o, by omega, by go_num, ?_, by show _ = _; rw [hst]; simp⟩
          refine word_eq ?_; first | rfl | simp
        case measure => simp [intOf]; omega
    · obtain rfl : i = c := by omega
      have hfin := HEND.out o ho.out
      have HF : Hid (sgn (wrap64 (o : Int)) i = sgn X i) := hfin
      clear hfin HSTEP HBIT HLB HEND
      go_wp2_with fail
      refine (specSign0 _ i _ hc1 hc2).mono ?_
      rintro e w2 ⟨rfl, rfl⟩
      rw [HF.out]
      go_wp2
      go_ret
      exact ⟨rfl, rfl⟩
set_option maxRecDepth 100000 in
set_option maxHeartbeats 4000000 in
theorem shC1 (a : Int) (n c : Nat) (w : World) (hc : c = 32 ∨ c = 64) (hn : n < c) :
    Calls Try.prog 93 #[.int .i64 1, .int .i64 a, .int .i64 n, .int .i64 c] w fun e w' => e = .returned (.int .i64 (sgn (shX 1 a n c) c)) ∧ w' = w := by
  have hc1 : 1 ≤ c := by omega
  have hc2 : c ≤ 64 := by omega
  clear hc
  have hbit := fun i => sh1_bit a n c i
  have hend := fun o => sh_end (shX 1 a n c) o c hc2
  have hstep := fun i => low_step (shX 1 a n c) i
  have hlb := fun i => low_bd (shX 1 a n c) i
  generalize shX 1 a n c = X at *
  have HBIT := hide hbit
  have HEND := hide hend
  have HSTEP := hide hstep
  have HLB := hide hlb
  clear hbit hend hstep hlb
  go_enter Try.func93, Try.ntmps93
  go_wp2
  go_loop [9, 10] (fun x t => ∃ i o : Nat, i ≤ c ∧ t = .int .i64 (i : Int) ∧ x = .int .u64 (o : Int) ∧ Hid ((o : Int) = X % 2 ^ i)) (fun _ t => c - (intOf t).toNat)
  case atStart => exact ⟨0, 0, Nat.zero_le _, rfl, rfl, by show _ = _; simp [Int.emod_one]⟩
  case round =>
    obtain ⟨i, o, hi, rfl, rfl, ho⟩ := hrel
    by_cases hlt : i < c
    · have HL : Hid ((o : Int) + 2 ^ i ≤ 18446744073709551615 ∧ (0 : Int) ≤ o) := by
        show _ ∧ _
        rw [ho.out]
        exact HLB.out i (by omega)
      have hst := HSTEP.out i
      rw [HBIT.out i, ← ho.out] at hst
      clear HSTEP HBIT HLB HEND ho
      by_cases hk : i + n < c
      · rw [if_pos hk] at hst
        obtain ⟨j, hj⟩ : ∃ j, j = i + n := ⟨_, rfl⟩
        rw [← hj] at hst
        have HST := hide hst
        have ej : (i : Int) + (n : Int) = (j : Int) := by omega
        have hjc : (j : Int) < (c : Int) := by omega
        clear hst hj hk
        go_wp2_with fail
        refine (bit_any a j _ (by omega)).mono ?_
        rintro e w2 ⟨rfl, rfl⟩
        have hbd := bitT_bd a j
        generalize bitT a j = b at *
        obtain ⟨b, rfl⟩ := Int.eq_ofNat_of_zero_le (show 0 ≤ b by omega)
        have hb1 : b ≤ 1 := by omega
        have hm : IntKind.u64.wrap ((b : Int) * 2 ^ i) = (b : Int) * 2 ^ i := by
          have hp := pow_nat i (by omega)
          rcases (show b = 0 ∨ b = 1 by omega) with rfl | rfl
          · rw [show ((0 : Nat) : Int) * 2 ^ i = 0 from Int.zero_mul _]; rfl
          · rw [show ((1 : Nat) : Int) * 2 ^ i = 2 ^ i from Int.one_mul _]; exact u64_id _ (by omega) (by omega)
        have hn : IntKind.u64.wrap ((o : Int) + (b : Int) * 2 ^ i) = (o : Int) + (b : Int) * 2 ^ i := by
          have hp := pow_nat i (by omega)
          have hl := HL.out
          rcases (show b = 0 ∨ b = 1 by omega) with rfl | rfl
          · rw [show ((0 : Nat) : Int) * 2 ^ i = 0 from Int.zero_mul _]; exact u64_id _ (by omega) (by omega)
          · rw [show ((1 : Nat) : Int) * 2 ^ i = 2 ^ i from Int.one_mul _]; exact u64_id _ (by omega) (by omega)
        clear hbd
        go_wp2
        go_round
        case rel =>
          have hst := HST.out
          refine ⟨i + 1, o + b * 2 ^ i, by omega, by go_num, ?_, by show _ = _; rw [hst]; push_cast; rfl⟩
          refine word_eq ?_; push_cast; rfl
        case measure => simp [intOf]; omega
      · rw [if_neg hk] at hst
        obtain ⟨j, hj⟩ : ∃ j, j = i + n := ⟨_, rfl⟩
        have HST := hide hst
        have ej : (i : Int) + (n : Int) = (j : Int) := by omega
        have hjc : (c : Int) ≤ (j : Int) := by omega
        clear hst hj hk
        have hz : IntKind.u64.wrap ((o : Int)) = (o : Int) := u64_id _ (by omega) (by have := HL.out; have := pow_nat i (by omega); omega)
        go_wp2
        go_round
        case rel =>
          have hst := HST.out
          refine ⟨i + 1, o, by omega, by go_num, ?_, by show _ = _; rw [hst]; simp⟩
          refine word_eq ?_; first | rfl | simp
        case measure => simp [intOf]; omega
    · obtain rfl : i = c := by omega
      have hfin := HEND.out o ho.out
      have HF : Hid (sgn (wrap64 (o : Int)) i = sgn X i) := hfin
      clear hfin HSTEP HBIT HLB HEND
      go_wp2_with fail
      refine (specSign0 _ i _ hc1 hc2).mono ?_
      rintro e w2 ⟨rfl, rfl⟩
      rw [HF.out]
      go_wp2
      go_ret
      exact ⟨rfl, rfl⟩
set_option maxRecDepth 100000 in
set_option maxHeartbeats 4000000 in
theorem shC2 (a : Int) (n c : Nat) (w : World) (hc : c = 32 ∨ c = 64) (hn : n < c) :
    Calls Try.prog 93 #[.int .i64 2, .int .i64 a, .int .i64 n, .int .i64 c] w fun e w' => e = .returned (.int .i64 (sgn (shX 2 a n c) c)) ∧ w' = w := by
  have hc1 : 1 ≤ c := by omega
  have hc2 : c ≤ 64 := by omega
  clear hc
  have hbit := fun i => sh2_bit a n c i hc1
  have hend := fun o => sh_end (shX 2 a n c) o c hc2
  have hstep := fun i => low_step (shX 2 a n c) i
  have hlb := fun i => low_bd (shX 2 a n c) i
  generalize shX 2 a n c = X at *
  have HBIT := hide hbit
  have HEND := hide hend
  have HSTEP := hide hstep
  have HLB := hide hlb
  clear hbit hend hstep hlb
  go_enter Try.func93, Try.ntmps93
  go_wp2
  go_loop [9, 10] (fun x t => ∃ i o : Nat, i ≤ c ∧ t = .int .i64 (i : Int) ∧ x = .int .u64 (o : Int) ∧ Hid ((o : Int) = X % 2 ^ i)) (fun _ t => c - (intOf t).toNat)
  case atStart => exact ⟨0, 0, Nat.zero_le _, rfl, rfl, by show _ = _; simp [Int.emod_one]⟩
  case round =>
    obtain ⟨i, o, hi, rfl, rfl, ho⟩ := hrel
    by_cases hlt : i < c
    · have HL : Hid ((o : Int) + 2 ^ i ≤ 18446744073709551615 ∧ (0 : Int) ≤ o) := by
        show _ ∧ _
        rw [ho.out]
        exact HLB.out i (by omega)
      have hst := HSTEP.out i
      rw [HBIT.out i, ← ho.out] at hst
      clear HSTEP HBIT HLB HEND ho
      obtain ⟨j, hj⟩ : ∃ j, j = i + n := ⟨_, rfl⟩
      rw [← hj] at hst
      have ej : (i : Int) + (n : Int) = (j : Int) := by omega
      by_cases hk : j ≤ c - 1
      · rw [Nat.min_eq_left hk] at hst
        have HST := hide hst
        have hjc : (j : Int) < (c : Int) := by omega
        clear hst hj hk
        go_wp2_with fail
        refine (bit_any a j _ (by omega)).mono ?_
        rintro e w2 ⟨rfl, rfl⟩
        have hbd := bitT_bd a j
        generalize bitT a j = b at *
        obtain ⟨b, rfl⟩ := Int.eq_ofNat_of_zero_le (show 0 ≤ b by omega)
        have hb1 : b ≤ 1 := by omega
        have hm : IntKind.u64.wrap ((b : Int) * 2 ^ i) = (b : Int) * 2 ^ i := by
          have hp := pow_nat i (by omega)
          rcases (show b = 0 ∨ b = 1 by omega) with rfl | rfl
          · rw [show ((0 : Nat) : Int) * 2 ^ i = 0 from Int.zero_mul _]; rfl
          · rw [show ((1 : Nat) : Int) * 2 ^ i = 2 ^ i from Int.one_mul _]; exact u64_id _ (by omega) (by omega)
        have hn : IntKind.u64.wrap ((o : Int) + (b : Int) * 2 ^ i) = (o : Int) + (b : Int) * 2 ^ i := by
          have hp := pow_nat i (by omega)
          have hl := HL.out
          rcases (show b = 0 ∨ b = 1 by omega) with rfl | rfl
          · rw [show ((0 : Nat) : Int) * 2 ^ i = 0 from Int.zero_mul _]; exact u64_id _ (by omega) (by omega)
          · rw [show ((1 : Nat) : Int) * 2 ^ i = 2 ^ i from Int.one_mul _]; exact u64_id _ (by omega) (by omega)
        clear hbd
        go_wp2
        go_round
        case rel =>
          have hst := HST.out
          refine ⟨i + 1, o + b * 2 ^ i, by omega, by go_num, ?_, by show _ = _; rw [hst]; push_cast; rfl⟩
          refine word_eq ?_; push_cast; rfl
        case measure => simp [intOf]; omega
      · rw [Nat.min_eq_right (by omega)] at hst
        obtain ⟨q, hq⟩ : ∃ q, q = c - 1 := ⟨_, rfl⟩
        rw [← hq] at hst
        have HST := hide hst
        have eq : (c : Int) - 1 = (q : Int) := by omega
        have hjc : (c : Int) ≤ (j : Int) := by omega
        have hq6 : q ≤ 63 := by omega
        clear hst hj hk hq
        go_wp2_with fail
        refine (bit_any a q _ (by omega)).mono ?_
        rintro e w2 ⟨rfl, rfl⟩
        have hbd := bitT_bd a q
        generalize bitT a q = b at *
        obtain ⟨b, rfl⟩ := Int.eq_ofNat_of_zero_le (show 0 ≤ b by omega)
        have hb1 : b ≤ 1 := by omega
        have hm : IntKind.u64.wrap ((b : Int) * 2 ^ i) = (b : Int) * 2 ^ i := by
          have hp := pow_nat i (by omega)
          rcases (show b = 0 ∨ b = 1 by omega) with rfl | rfl
          · rw [show ((0 : Nat) : Int) * 2 ^ i = 0 from Int.zero_mul _]; rfl
          · rw [show ((1 : Nat) : Int) * 2 ^ i = 2 ^ i from Int.one_mul _]; exact u64_id _ (by omega) (by omega)
        have hn : IntKind.u64.wrap ((o : Int) + (b : Int) * 2 ^ i) = (o : Int) + (b : Int) * 2 ^ i := by
          have hp := pow_nat i (by omega)
          have hl := HL.out
          rcases (show b = 0 ∨ b = 1 by omega) with rfl | rfl
          · rw [show ((0 : Nat) : Int) * 2 ^ i = 0 from Int.zero_mul _]; exact u64_id _ (by omega) (by omega)
          · rw [show ((1 : Nat) : Int) * 2 ^ i = 2 ^ i from Int.one_mul _]; exact u64_id _ (by omega) (by omega)
        clear hbd
        go_wp2
        go_round
        case rel =>
          have hst := HST.out
          refine ⟨i + 1, o + b * 2 ^ i, by omega, by go_num, ?_, by show _ = _; rw [hst]; push_cast; rfl⟩
          refine word_eq ?_; push_cast; rfl
        case measure => simp [intOf]; omega
    · obtain rfl : i = c := by omega
      have hfin := HEND.out o ho.out
      have HF : Hid (sgn (wrap64 (o : Int)) i = sgn X i) := hfin
      clear hfin HSTEP HBIT HLB HEND
      go_wp2_with fail
      refine (specSign0 _ i _ hc1 hc2).mono ?_
      rintro e w2 ⟨rfl, rfl⟩
      rw [HF.out]
      go_wp2
      go_ret
      exact ⟨rfl, rfl⟩
end Go.Proofs.Ytmahjgaaahkakaa
