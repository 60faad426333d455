/- The model's product of 128 bits: contract. -/
import Derived.Test.YtmahjgaaahkakaaRows
import Derived.Test.YtmahjgaaahkakaaWidP
import Derived.Test.YtmahjgaaahkakaaSgnP
namespace Go.Proofs.Ytmahjgaaahkakaa
open Go.RowKit
set_option linter.unusedVariables false

theorem ret_words {a b x y : Int} (h : a = b) (k : x = y) : Ending.returned (.tuple #[.int .u64 a, .int .u64 x]) = .returned (.tuple #[.int .u64 b, .int .u64 y]) := by rw [h, k]
theorem word_eq {a b : Int} (h : a = b) : Value.int .u64 a = .int .u64 b := by rw [h]

set_option maxRecDepth 100000 in
set_option maxHeartbeats 1000000 in
theorem wide_any (a b : Nat) (w : World) (ha : a < 18446744073709551616) (hb : b < 18446744073709551616) :
    Calls Try.prog 35 #[.int .u64 a, .int .u64 b] w fun e w' => e = .returned (.tuple #[.int .u64 ((a * b / 18446744073709551616 : Nat) : Int), .int .u64 ((a * b % 18446744073709551616 : Nat) : Int)]) ∧ w' = w := by
  go_enter Try.func35, Try.ntmps35
  go_wp2
  go_loop [6, 7, 8] (fun x y t => ∃ k h l : Nat, k ≤ 64 ∧ t = .int .i64 ((k : Int) - 1) ∧ x = .int .u64 (h : Int) ∧ y = .int .u64 (l : Int) ∧ Hid (h = wideP a b k / 18446744073709551616 ∧ l = wideP a b k % 18446744073709551616)) (fun _ _ t => (intOf t + 1).toNat)
  case atStart => exact ⟨64, 0, 0, Nat.le_refl _, rfl, rfl, rfl, by show _ ∧ _; rw [wide_top a b hb]; exact ⟨rfl, rfl⟩⟩
  case round =>
    obtain ⟨k, h, l, hk, rfl, rfl, rfl, hh⟩ := hrel
    by_cases hlt : 1 ≤ k
    · obtain ⟨j, rfl⟩ : ∃ j, k = j + 1 := ⟨k - 1, by omega⟩
      obtain ⟨e1, e2⟩ := hh.out
      have hQ := wide_bd a b j ha hb
      have hst := wide_step a b j
      have hP := wide_bd a b (j + 1) ha hb
      have ej : ((j + 1 : Nat) : Int) - 1 = (j : Int) := by omega
      have hj : j ≤ 63 := by omega
      have hl : l < 18446744073709551616 := by omega
      have hh' : h < 18446744073709551616 := by omega
      clear hh
      have hx := Nat.mod_two_eq_zero_or_one (b / 2 ^ j)
      rcases hx with hx | hx
      · have R := wide_round0 _ _ _ _ hst hx hQ
        rw [← e1, ← e2] at R
        obtain ⟨R1, R2, R3⟩ := R
        have r1 : (b : Int) / 2 ^ j % 2 = 0 := by exact_mod_cast hx
        have r2 : ((b : Int) / 2 ^ j).tmod 2 = 0 := by rw [Int.tmod_eq_emod_of_nonneg (by exact_mod_cast Nat.zero_le _)]; exact r1
        have H : Hid (2 * h + l / 9223372036854775808 = wideP a b j / 18446744073709551616 ∧ 2 * l % 18446744073709551616 = wideP a b j % 18446744073709551616 ∧ wideP a b j / 18446744073709551616 ≤ 18446744073709551615) := ⟨R1, R2, R3⟩
        clear R1 R2 R3 e1 e2 hst hQ hP hx
        go_wp2
        go_round
        case rel =>
          obtain ⟨R1, R2, R3⟩ := H.out
          refine ⟨j, 2 * h + l / 9223372036854775808, 2 * l % 18446744073709551616, by omega, rfl, ?_, ?_, by show _ ∧ _; exact ⟨R1, R2⟩⟩
          · refine word_eq ?_; first | omega | (simp only [IntKind.wrap_u64]; omega)
          · refine word_eq ?_; first | omega | (simp only [IntKind.wrap_u64]; omega)
        case measure => simp [intOf]
      · have R := wide_round1 _ _ _ _ hst hx ha hQ
        rw [← e1, ← e2] at R
        have r1 : (b : Int) / 2 ^ j % 2 = 1 := by exact_mod_cast hx
        have r2 : ((b : Int) / 2 ^ j).tmod 2 = 1 := by rw [Int.tmod_eq_emod_of_nonneg (by exact_mod_cast Nat.zero_le _)]; exact r1
        have r1' : (b : Int) / 2 ^ j % 2 = 1 := r1
        by_cases hc : (2 * l % 18446744073709551616 + a) % 18446744073709551616 < 2 * l % 18446744073709551616
        · rw [if_pos hc] at R
          have H : Hid (2 * h + l / 9223372036854775808 + 1 = wideP a b j / 18446744073709551616 ∧ (2 * l % 18446744073709551616 + a) % 18446744073709551616 = wideP a b j % 18446744073709551616 ∧ wideP a b j / 18446744073709551616 ≤ 18446744073709551615) := R
          have hcw : IntKind.u64.wrap (IntKind.u64.wrap ((l : Int) * 2) + (a : Int)) < IntKind.u64.wrap ((l : Int) * 2) := by
            simp only [IntKind.wrap_u64]; omega
          clear R e1 e2 hst hQ hP hx r1' hc
          go_wp2
          go_round
          case rel =>
            obtain ⟨R1, R2, R3⟩ := H.out
            refine ⟨j, 2 * h + l / 9223372036854775808 + 1, (2 * l % 18446744073709551616 + a) % 18446744073709551616, by omega, rfl, ?_, ?_, by show _ ∧ _; exact ⟨R1, R2⟩⟩
            · refine word_eq ?_; first | omega | (simp only [IntKind.wrap_u64]; omega)
            · refine word_eq ?_; first | omega | (simp only [IntKind.wrap_u64]; omega)
          case measure => simp [intOf]
        · rw [if_neg hc] at R
          have H : Hid (2 * h + l / 9223372036854775808 + 0 = wideP a b j / 18446744073709551616 ∧ (2 * l % 18446744073709551616 + a) % 18446744073709551616 = wideP a b j % 18446744073709551616 ∧ wideP a b j / 18446744073709551616 ≤ 18446744073709551615) := R
          have hcw : IntKind.u64.wrap ((l : Int) * 2) ≤ IntKind.u64.wrap (IntKind.u64.wrap ((l : Int) * 2) + (a : Int)) := by
            simp only [IntKind.wrap_u64]; omega
          clear R e1 e2 hst hQ hP hx r1' hc
          go_wp2
          go_round
          case rel =>
            obtain ⟨R1, R2, R3⟩ := H.out
            refine ⟨j, 2 * h + l / 9223372036854775808, (2 * l % 18446744073709551616 + a) % 18446744073709551616, by omega, rfl, ?_, ?_, by show _ ∧ _; exact ⟨R1, R2⟩⟩
            · refine word_eq ?_; first | omega | (simp only [IntKind.wrap_u64]; omega)
            · refine word_eq ?_; first | omega | (simp only [IntKind.wrap_u64]; omega)
          case measure => simp [intOf]
    · obtain rfl : k = 0 := by omega
      obtain ⟨e1, e2⟩ := hh.out
      rw [wide_end] at e1 e2
      have H : Hid (h = a * b / 18446744073709551616 ∧ l = a * b % 18446744073709551616) := ⟨e1, e2⟩
      clear hh e1 e2
      go_wp2
      go_ret2
      obtain ⟨e1, e2⟩ := H.out
      exact ⟨ret_words (by omega) (by omega), rfl⟩
end Go.Proofs.Ytmahjgaaahkakaa
