/- DivideU: the model's division bit by bit, and the program's. -/
import Derived.Test.YtmahjgaaahkakaaWidA
namespace Go.Proofs.Ytmahjgaaahkakaa
open Go.RowKit
set_option linter.unusedVariables false

theorem divide_zero (a : Nat) (w : World) :
    Calls Try.prog 51 #[.int .u64 a, .int .u64 0] w fun e w' => e = .returned (.tuple #[.int .u64 18446744073709551615, .int .u64 a]) ∧ w' = w := by
  go_enter Try.func51, Try.ntmps51
  go_wp2
  go_ret2
  exact ⟨rfl, rfl⟩

set_option maxRecDepth 100000 in
set_option maxHeartbeats 1000000 in
theorem divide_any (a b : Nat) (w : World) (ha : a < 18446744073709551616) (hb : b < 18446744073709551616) (h0 : 0 < b) :
    Calls Try.prog 51 #[.int .u64 a, .int .u64 b] w fun e w' => e = .returned (.tuple #[.int .u64 ((a / b : Nat) : Int), .int .u64 ((a % b : Nat) : Int)]) ∧ w' = w := by
  have hb0 : (0 : Int) < (b : Int) := by omega
  have hbn : ((b : Int) == 0) = false := beq_eq_false_iff_ne.2 (by omega)
  have hbl : (b : Int) ≤ 18446744073709551615 := by omega
  go_enter Try.func51, Try.ntmps51
  go_wp2
  go_loop [6, 7, 8] (fun x y t => ∃ k q r : Nat, k ≤ 64 ∧ t = .int .i64 ((k : Int) - 1) ∧ x = .int .u64 (q : Int) ∧ y = .int .u64 (r : Int) ∧ Hid (q = a / 2 ^ k / b ∧ r = a / 2 ^ k % b)) (fun _ _ t => (intOf t + 1).toNat)
  case atStart => exact ⟨64, 0, 0, Nat.le_refl _, rfl, rfl, rfl, by show _ ∧ _; rw [top64 a ha]; exact ⟨(Nat.zero_div b).symm, (Nat.zero_mod b).symm⟩⟩
  case round =>
    obtain ⟨k, q, r, hk, rfl, rfl, rfl, hh⟩ := hrel
    by_cases hlt : 1 ≤ k
    · obtain ⟨j, rfl⟩ : ∃ j, k = j + 1 := ⟨k - 1, by omega⟩
      obtain ⟨e1, e2⟩ := hh.out
      have ej : ((j + 1 : Nat) : Int) - 1 = (j : Int) := by omega
      have hj : j ≤ 63 := by omega
      have hst := halve a j
      obtain ⟨x, hx⟩ : ∃ x, x = a / 2 ^ j % 2 := ⟨_, rfl⟩
      have hx1 : x ≤ 1 := by omega
      have r1 : (a : Int) / 2 ^ j % 2 = (x : Int) := by rw [hx]; simp
      have r2 : ((a : Int) / 2 ^ j).tmod 2 = (x : Int) := by rw [Int.tmod_eq_emod_of_nonneg (by exact_mod_cast Nat.zero_le _)]; exact r1
      rw [← hx] at hst
      have hal : a / 2 ^ j ≤ 18446744073709551615 := by have := Nat.div_le_self a (2 ^ j); omega
      have hrb : r < b := by rw [e2]; exact Nat.mod_lt _ h0
      have hx0 : (0 : Int) ≤ (x : Int) := by omega
      have hx2 : (x : Int) ≤ 1 := by omega
      by_cases ht : 9223372036854775808 ≤ r
      · have hc : b ≤ 2 * r + x := by omega
        have D := div_take (a / 2 ^ (j + 1)) b x h0 hx1 (by rw [← e2]; exact hc)
        rw [← hst, ← e1, ← e2] at D
        have hql : a / 2 ^ j / b ≤ 18446744073709551615 := Nat.le_trans (Nat.div_le_self _ _) hal
        rw [D.1] at hql
        have H : Hid (2 * q + 1 = a / 2 ^ j / b ∧ 2 * r + x - b = a / 2 ^ j % b) := ⟨D.1.symm, D.2.symm⟩
        have t1 : ((r : Int) / 9223372036854775808 == 1) = true := beq_iff_eq.2 (by omega)
        clear D e1 e2 hst hx hh hal hc
        go_wp2
        go_round
        case rel =>
          refine ⟨j, 2 * q + 1, 2 * r + x - b, by omega, rfl, ?_, ?_, H⟩
          · refine word_eq ?_; first | omega | (simp only [IntKind.wrap_u64]; omega)
          · refine word_eq ?_; first | omega | (simp only [IntKind.wrap_u64]; omega)
        case measure => simp [intOf]
      · have t1 : ((r : Int) / 9223372036854775808 == 1) = false := beq_eq_false_iff_ne.2 (by omega)
        by_cases hc : b ≤ 2 * r + x
        · have D := div_take (a / 2 ^ (j + 1)) b x h0 hx1 (by rw [← e2]; exact hc)
          rw [← hst, ← e1, ← e2] at D
          have hql : a / 2 ^ j / b ≤ 18446744073709551615 := Nat.le_trans (Nat.div_le_self _ _) hal
          rw [D.1] at hql
          have H : Hid (2 * q + 1 = a / 2 ^ j / b ∧ 2 * r + x - b = a / 2 ^ j % b) := ⟨D.1.symm, D.2.symm⟩
          have t2 : (b : Int) ≤ (r : Int) * 2 + (x : Int) := by omega
          clear D e1 e2 hst hx hh hal hc
          go_wp2
          go_round
          case rel =>
            refine ⟨j, 2 * q + 1, 2 * r + x - b, by omega, rfl, ?_, ?_, H⟩
            · refine word_eq ?_; first | omega | (simp only [IntKind.wrap_u64]; omega)
            · refine word_eq ?_; first | omega | (simp only [IntKind.wrap_u64]; omega)
          case measure => simp [intOf]
        · have D := div_leave (a / 2 ^ (j + 1)) b x h0 (by rw [← e2]; exact by omega)
          rw [← hst, ← e1, ← e2] at D
          have hql : a / 2 ^ j / b ≤ 18446744073709551615 := Nat.le_trans (Nat.div_le_self _ _) hal
          rw [D.1] at hql
          have H : Hid (2 * q = a / 2 ^ j / b ∧ 2 * r + x = a / 2 ^ j % b) := ⟨D.1.symm, D.2.symm⟩
          have t2 : (r : Int) * 2 + (x : Int) < (b : Int) := by omega
          clear D e1 e2 hst hx hh hal hc
          go_wp2
          go_round
          case rel =>
            refine ⟨j, 2 * q, 2 * r + x, by omega, rfl, ?_, ?_, H⟩
            · refine word_eq ?_; first | omega | (simp only [IntKind.wrap_u64]; omega)
            · refine word_eq ?_; first | omega | (simp only [IntKind.wrap_u64]; omega)
          case measure => simp [intOf]
    · obtain rfl : k = 0 := by omega
      obtain ⟨e1, e2⟩ := hh.out
      rw [Nat.pow_zero, Nat.div_one] at e1 e2
      have H : Hid (q = a / b ∧ r = a % b) := ⟨e1, e2⟩
      clear hh e1 e2
      go_wp2
      go_ret2
      obtain ⟨e1, e2⟩ := H.out
      exact ⟨ret_words (congrArg Nat.cast e1) (congrArg Nat.cast e2), rfl⟩
end Go.Proofs.Ytmahjgaaahkakaa
