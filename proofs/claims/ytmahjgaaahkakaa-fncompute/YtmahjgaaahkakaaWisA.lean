/- The model's operations bit by bit: contracts. -/
import Derived.Test.YtmahjgaaahkakaaAluP
import Derived.Test.YtmahjgaaahkakaaSgnB
import Derived.Test.YtmahjgaaahkakaaWidA
namespace Go.Proofs.Ytmahjgaaahkakaa
open Go.RowKit
set_option linter.unusedVariables false

theorem hide' {p : Prop} (h : p) : Hid p := h
theorem wi_top (N : Nat) (h : N < 18446744073709551616) : N / 2 ^ 64 = 0 := Nat.div_eq_of_lt h
theorem wi_half (N k : Nat) (h : N < 18446744073709551616) : 2 * (N / 2 ^ (k + 1)) + 1 ≤ 18446744073709551615 := by
  rw [Nat.pow_succ, Nat.mul_comm (2 ^ k), ← Nat.div_div_eq_div_mul]
  have h1 : N / 2 / 2 ^ k ≤ N / 2 := Nat.div_le_self _ _
  omega

theorem wib_and (x y i : Nat) : wiN 40 x y / 2 ^ i % 2 = (x / 2 ^ i % 2) * (y / 2 ^ i % 2) := and_bit x y i
set_option maxRecDepth 100000 in
set_option maxHeartbeats 4000000 in
theorem wise_and (a b : Int) (w : World) :
    Calls Try.prog 96 #[.int .i64 40, .int .i64 a, .int .i64 b] w fun e w' => e = .returned (.int .i64 (wrap64 ((wiN 40 (u64 a) (u64 b) : Nat) : Int))) ∧ w' = w := by
  have hlt := wiN_lt 40 _ _ (u64_lt a) (u64_lt b)
  have HBIT : Hid (∀ i, wiN 40 (u64 a) (u64 b) / 2 ^ i % 2 = _) := wib_and (u64 a) (u64 b)
  generalize wiN 40 (u64 a) (u64 b) = N at *
  have HTOP : Hid (N / 2 ^ 64 = 0) := wi_top N hlt
  have HALF : Hid (∀ k, 2 * (N / 2 ^ (k + 1)) + 1 ≤ 18446744073709551615) := fun k => wi_half N k hlt
  clear hlt
  go_enter Try.func96, Try.ntmps96
  go_wp2
  go_loop [7, 8] (fun x t => ∃ k o : Nat, k ≤ 64 ∧ t = .int .i64 ((k : Int) - 1) ∧ x = .int .u64 (o : Int) ∧ Hid (o = N / 2 ^ k)) (fun _ t => (intOf t + 1).toNat)
  case atStart => exact ⟨64, 0, Nat.le_refl _, rfl, rfl, HTOP.out.symm⟩
  case round =>
    obtain ⟨k, o, hk, rfl, rfl, ho⟩ := hrel
    by_cases hlt : 1 ≤ k
    · obtain ⟨j, rfl⟩ : ∃ j, k = j + 1 := ⟨k - 1, by omega⟩
      have ej : ((j + 1 : Nat) : Int) - 1 = (j : Int) := by omega
      have hj : j ≤ 63 := by omega
      have hol : (o : Int) ≤ 9223372036854775807 := by have := HALF.out j; rw [← ho.out] at this; omega
      have hst := halve N j
      rw [← ho.out, HBIT.out j] at hst
      have ea := bit_nat a j (by omega)
      have eb := bit_nat b j (by omega)
      have ha := Nat.mod_two_eq_zero_or_one (u64 a / 2 ^ j)
      have hb := Nat.mod_two_eq_zero_or_one (u64 b / 2 ^ j)
      generalize u64 a / 2 ^ j % 2 = x at *
      generalize u64 b / 2 ^ j % 2 = y at *
      have EA := hide' ea
      have EB := hide' eb
      clear ea eb HBIT HTOP HALF ho
      rcases ha with rfl | rfl <;> rcases hb with rfl | rfl
      · have HST : Hid (N / 2 ^ j = 2 * o + 0) := by show _ = _; rw [hst]
        clear hst
        go_wp2_with fail
        refine (bit_any a j _ hj).mono ?_
        rintro e w2 ⟨rfl, rfl⟩
        rw [EA.out]
        go_wp2_with fail
        refine (bit_any b j _ hj).mono ?_
        rintro e w2 ⟨rfl, rfl⟩
        rw [EB.out]
        go_wp2
        go_round
        case rel => exact ⟨j, 2 * o + 0, by omega, by go_num, word_eq (by omega), HST.out.symm⟩
        case measure => simp [intOf]
      · have HST : Hid (N / 2 ^ j = 2 * o + 0) := by show _ = _; rw [hst]
        clear hst
        go_wp2_with fail
        refine (bit_any a j _ hj).mono ?_
        rintro e w2 ⟨rfl, rfl⟩
        rw [EA.out]
        go_wp2_with fail
        refine (bit_any b j _ hj).mono ?_
        rintro e w2 ⟨rfl, rfl⟩
        rw [EB.out]
        go_wp2
        go_round
        case rel => exact ⟨j, 2 * o + 0, by omega, by go_num, word_eq (by omega), HST.out.symm⟩
        case measure => simp [intOf]
      · have HST : Hid (N / 2 ^ j = 2 * o + 0) := by show _ = _; rw [hst]
        clear hst
        go_wp2_with fail
        refine (bit_any a j _ hj).mono ?_
        rintro e w2 ⟨rfl, rfl⟩
        rw [EA.out]
        go_wp2_with fail
        refine (bit_any b j _ hj).mono ?_
        rintro e w2 ⟨rfl, rfl⟩
        rw [EB.out]
        go_wp2
        go_round
        case rel => exact ⟨j, 2 * o + 0, by omega, by go_num, word_eq (by omega), HST.out.symm⟩
        case measure => simp [intOf]
      · have HST : Hid (N / 2 ^ j = 2 * o + 1) := by show _ = _; rw [hst]
        clear hst
        go_wp2_with fail
        refine (bit_any a j _ hj).mono ?_
        rintro e w2 ⟨rfl, rfl⟩
        rw [EA.out]
        go_wp2_with fail
        refine (bit_any b j _ hj).mono ?_
        rintro e w2 ⟨rfl, rfl⟩
        rw [EB.out]
        go_wp2
        go_round
        case rel => exact ⟨j, 2 * o + 1, by omega, by go_num, word_eq (by omega), HST.out.symm⟩
        case measure => simp [intOf]
    · obtain rfl : k = 0 := by omega
      have ho' : o = N := by rw [ho.out]; simp
      clear ho HBIT HTOP HALF
      subst ho'
      go_wp2
      go_ret
      exact ⟨rfl, rfl⟩
theorem wib_or (x y i : Nat) : wiN 39 x y / 2 ^ i % 2 = (x / 2 ^ i % 2) + (y / 2 ^ i % 2) - (x / 2 ^ i % 2) * (y / 2 ^ i % 2) := or_bit x y i
set_option maxRecDepth 100000 in
set_option maxHeartbeats 4000000 in
theorem wise_or (a b : Int) (w : World) :
    Calls Try.prog 96 #[.int .i64 39, .int .i64 a, .int .i64 b] w fun e w' => e = .returned (.int .i64 (wrap64 ((wiN 39 (u64 a) (u64 b) : Nat) : Int))) ∧ w' = w := by
  have hlt := wiN_lt 39 _ _ (u64_lt a) (u64_lt b)
  have HBIT : Hid (∀ i, wiN 39 (u64 a) (u64 b) / 2 ^ i % 2 = _) := wib_or (u64 a) (u64 b)
  generalize wiN 39 (u64 a) (u64 b) = N at *
  have HTOP : Hid (N / 2 ^ 64 = 0) := wi_top N hlt
  have HALF : Hid (∀ k, 2 * (N / 2 ^ (k + 1)) + 1 ≤ 18446744073709551615) := fun k => wi_half N k hlt
  clear hlt
  go_enter Try.func96, Try.ntmps96
  go_wp2
  go_loop [7, 8] (fun x t => ∃ k o : Nat, k ≤ 64 ∧ t = .int .i64 ((k : Int) - 1) ∧ x = .int .u64 (o : Int) ∧ Hid (o = N / 2 ^ k)) (fun _ t => (intOf t + 1).toNat)
  case atStart => exact ⟨64, 0, Nat.le_refl _, rfl, rfl, HTOP.out.symm⟩
  case round =>
    obtain ⟨k, o, hk, rfl, rfl, ho⟩ := hrel
    by_cases hlt : 1 ≤ k
    · obtain ⟨j, rfl⟩ : ∃ j, k = j + 1 := ⟨k - 1, by omega⟩
      have ej : ((j + 1 : Nat) : Int) - 1 = (j : Int) := by omega
      have hj : j ≤ 63 := by omega
      have hol : (o : Int) ≤ 9223372036854775807 := by have := HALF.out j; rw [← ho.out] at this; omega
      have hst := halve N j
      rw [← ho.out, HBIT.out j] at hst
      have ea := bit_nat a j (by omega)
      have eb := bit_nat b j (by omega)
      have ha := Nat.mod_two_eq_zero_or_one (u64 a / 2 ^ j)
      have hb := Nat.mod_two_eq_zero_or_one (u64 b / 2 ^ j)
      generalize u64 a / 2 ^ j % 2 = x at *
      generalize u64 b / 2 ^ j % 2 = y at *
      have EA := hide' ea
      have EB := hide' eb
      clear ea eb HBIT HTOP HALF ho
      rcases ha with rfl | rfl <;> rcases hb with rfl | rfl
      · have HST : Hid (N / 2 ^ j = 2 * o + 0) := by show _ = _; rw [hst]
        clear hst
        go_wp2_with fail
        refine (bit_any a j _ hj).mono ?_
        rintro e w2 ⟨rfl, rfl⟩
        rw [EA.out]
        go_wp2_with fail
        refine (bit_any b j _ hj).mono ?_
        rintro e w2 ⟨rfl, rfl⟩
        rw [EB.out]
        go_wp2
        go_round
        case rel => exact ⟨j, 2 * o + 0, by omega, by go_num, word_eq (by omega), HST.out.symm⟩
        case measure => simp [intOf]
      · have HST : Hid (N / 2 ^ j = 2 * o + 1) := by show _ = _; rw [hst]
        clear hst
        go_wp2_with fail
        refine (bit_any a j _ hj).mono ?_
        rintro e w2 ⟨rfl, rfl⟩
        rw [EA.out]
        go_wp2_with fail
        refine (bit_any b j _ hj).mono ?_
        rintro e w2 ⟨rfl, rfl⟩
        rw [EB.out]
        go_wp2
        go_round
        case rel => exact ⟨j, 2 * o + 1, by omega, by go_num, word_eq (by omega), HST.out.symm⟩
        case measure => simp [intOf]
      · have HST : Hid (N / 2 ^ j = 2 * o + 1) := by show _ = _; rw [hst]
        clear hst
        go_wp2_with fail
        refine (bit_any a j _ hj).mono ?_
        rintro e w2 ⟨rfl, rfl⟩
        rw [EA.out]
        go_wp2_with fail
        refine (bit_any b j _ hj).mono ?_
        rintro e w2 ⟨rfl, rfl⟩
        rw [EB.out]
        go_wp2
        go_round
        case rel => exact ⟨j, 2 * o + 1, by omega, by go_num, word_eq (by omega), HST.out.symm⟩
        case measure => simp [intOf]
      · have HST : Hid (N / 2 ^ j = 2 * o + 1) := by show _ = _; rw [hst]
        clear hst
        go_wp2_with fail
        refine (bit_any a j _ hj).mono ?_
        rintro e w2 ⟨rfl, rfl⟩
        rw [EA.out]
        go_wp2_with fail
        refine (bit_any b j _ hj).mono ?_
        rintro e w2 ⟨rfl, rfl⟩
        rw [EB.out]
        go_wp2
        go_round
        case rel => exact ⟨j, 2 * o + 1, by omega, by go_num, word_eq (by omega), HST.out.symm⟩
        case measure => simp [intOf]
    · obtain rfl : k = 0 := by omega
      have ho' : o = N := by rw [ho.out]; simp
      clear ho HBIT HTOP HALF
      subst ho'
      go_wp2
      go_ret
      exact ⟨rfl, rfl⟩
theorem wib_xor (x y i : Nat) : wiN 36 x y / 2 ^ i % 2 = ((x / 2 ^ i % 2) + (y / 2 ^ i % 2)) % 2 := xor_bit x y i
set_option maxRecDepth 100000 in
set_option maxHeartbeats 4000000 in
theorem wise_xor (a b : Int) (w : World) :
    Calls Try.prog 96 #[.int .i64 36, .int .i64 a, .int .i64 b] w fun e w' => e = .returned (.int .i64 (wrap64 ((wiN 36 (u64 a) (u64 b) : Nat) : Int))) ∧ w' = w := by
  have hlt := wiN_lt 36 _ _ (u64_lt a) (u64_lt b)
  have HBIT : Hid (∀ i, wiN 36 (u64 a) (u64 b) / 2 ^ i % 2 = _) := wib_xor (u64 a) (u64 b)
  generalize wiN 36 (u64 a) (u64 b) = N at *
  have HTOP : Hid (N / 2 ^ 64 = 0) := wi_top N hlt
  have HALF : Hid (∀ k, 2 * (N / 2 ^ (k + 1)) + 1 ≤ 18446744073709551615) := fun k => wi_half N k hlt
  clear hlt
  go_enter Try.func96, Try.ntmps96
  go_wp2
  go_loop [7, 8] (fun x t => ∃ k o : Nat, k ≤ 64 ∧ t = .int .i64 ((k : Int) - 1) ∧ x = .int .u64 (o : Int) ∧ Hid (o = N / 2 ^ k)) (fun _ t => (intOf t + 1).toNat)
  case atStart => exact ⟨64, 0, Nat.le_refl _, rfl, rfl, HTOP.out.symm⟩
  case round =>
    obtain ⟨k, o, hk, rfl, rfl, ho⟩ := hrel
    by_cases hlt : 1 ≤ k
    · obtain ⟨j, rfl⟩ : ∃ j, k = j + 1 := ⟨k - 1, by omega⟩
      have ej : ((j + 1 : Nat) : Int) - 1 = (j : Int) := by omega
      have hj : j ≤ 63 := by omega
      have hol : (o : Int) ≤ 9223372036854775807 := by have := HALF.out j; rw [← ho.out] at this; omega
      have hst := halve N j
      rw [← ho.out, HBIT.out j] at hst
      have ea := bit_nat a j (by omega)
      have eb := bit_nat b j (by omega)
      have ha := Nat.mod_two_eq_zero_or_one (u64 a / 2 ^ j)
      have hb := Nat.mod_two_eq_zero_or_one (u64 b / 2 ^ j)
      generalize u64 a / 2 ^ j % 2 = x at *
      generalize u64 b / 2 ^ j % 2 = y at *
      have EA := hide' ea
      have EB := hide' eb
      clear ea eb HBIT HTOP HALF ho
      rcases ha with rfl | rfl <;> rcases hb with rfl | rfl
      · have HST : Hid (N / 2 ^ j = 2 * o + 0) := by show _ = _; rw [hst]
        clear hst
        go_wp2_with fail
        refine (bit_any a j _ hj).mono ?_
        rintro e w2 ⟨rfl, rfl⟩
        rw [EA.out]
        go_wp2_with fail
        refine (bit_any b j _ hj).mono ?_
        rintro e w2 ⟨rfl, rfl⟩
        rw [EB.out]
        go_wp2
        go_round
        case rel => exact ⟨j, 2 * o + 0, by omega, by go_num, word_eq (by omega), HST.out.symm⟩
        case measure => simp [intOf]
      · have HST : Hid (N / 2 ^ j = 2 * o + 1) := by show _ = _; rw [hst]
        clear hst
        go_wp2_with fail
        refine (bit_any a j _ hj).mono ?_
        rintro e w2 ⟨rfl, rfl⟩
        rw [EA.out]
        go_wp2_with fail
        refine (bit_any b j _ hj).mono ?_
        rintro e w2 ⟨rfl, rfl⟩
        rw [EB.out]
        go_wp2
        go_round
        case rel => exact ⟨j, 2 * o + 1, by omega, by go_num, word_eq (by omega), HST.out.symm⟩
        case measure => simp [intOf]
      · have HST : Hid (N / 2 ^ j = 2 * o + 1) := by show _ = _; rw [hst]
        clear hst
        go_wp2_with fail
        refine (bit_any a j _ hj).mono ?_
        rintro e w2 ⟨rfl, rfl⟩
        rw [EA.out]
        go_wp2_with fail
        refine (bit_any b j _ hj).mono ?_
        rintro e w2 ⟨rfl, rfl⟩
        rw [EB.out]
        go_wp2
        go_round
        case rel => exact ⟨j, 2 * o + 1, by omega, by go_num, word_eq (by omega), HST.out.symm⟩
        case measure => simp [intOf]
      · have HST : Hid (N / 2 ^ j = 2 * o + 0) := by show _ = _; rw [hst]
        clear hst
        go_wp2_with fail
        refine (bit_any a j _ hj).mono ?_
        rintro e w2 ⟨rfl, rfl⟩
        rw [EA.out]
        go_wp2_with fail
        refine (bit_any b j _ hj).mono ?_
        rintro e w2 ⟨rfl, rfl⟩
        rw [EB.out]
        go_wp2
        go_round
        case rel => exact ⟨j, 2 * o + 0, by omega, by go_num, word_eq (by omega), HST.out.symm⟩
        case measure => simp [intOf]
    · obtain rfl : k = 0 := by omega
      have ho' : o = N := by rw [ho.out]; simp
      clear ho HBIT HTOP HALF
      subst ho'
      go_wp2
      go_ret
      exact ⟨rfl, rfl⟩
end Go.Proofs.Ytmahjgaaahkakaa
