/- Bits of a word, read by the model: the contract. -/
import Derived.Test.YtmahjgaaahkakaaPutP
import Derived.Test.YtmahjgaaahkakaaSgnB
namespace Go.Proofs.Ytmahjgaaahkakaa
open Go.RowKit
set_option linter.unusedVariables false

theorem bit_div (v : Int) (l k : Nat) : bitT (v / 2 ^ l) k = bitT v (l + k) := by
  unfold bitT
  rw [dd _ _ (Int.le_of_lt (pow_pos l)), ← Int.pow_add]

theorem fieStep (word : Int) (low count k : Nat) (h : k < count) :
    word / 2 ^ low % 2 ^ count / 2 ^ k = 2 * (word / 2 ^ low % 2 ^ count / 2 ^ (k + 1)) + bitT word (low + k) := by
  rw [int_half _ k, bit_mod _ count k h, bit_div]

set_option maxRecDepth 100000 in
set_option maxHeartbeats 4000000 in
theorem fieC (word : Int) (low count : Nat) (w : World) (hc : count ≤ 32) (hl : low + count ≤ 64) :
    Calls Try.prog 94 #[.int .i64 word, .int .i64 low, .int .i64 count] w fun e w' => e = .returned (.int .i64 (word / 2 ^ low % 2 ^ count)) ∧ w' = w := by
  have h0 : 0 ≤ word / 2 ^ low % 2 ^ count := Int.emod_nonneg _ (Int.ne_of_gt (pow_pos count))
  have h1 : word / 2 ^ low % 2 ^ count < 2 ^ count := Int.emod_lt_of_pos _ (pow_pos count)
  have h2 : word / 2 ^ low % 2 ^ count < 4294967296 := by
    have : (2 : Int) ^ count ≤ 2 ^ 32 := pow_le hc
    omega
  have hst := fun k h => fieStep word low count k h
  obtain ⟨R, hR⟩ : ∃ R, R = word / 2 ^ low % 2 ^ count := ⟨_, rfl⟩
  rw [← hR] at h0 h1 h2 hst
  rw [← hR]
  have HST : Hid (∀ k, k < count → R / 2 ^ k = 2 * (R / 2 ^ (k + 1)) + bitT word (low + k)) := hst
  have HB : Hid (0 ≤ R ∧ R < 4294967296) := ⟨h0, h2⟩
  have HT : Hid (R / 2 ^ count = 0) := Int.ediv_eq_zero_of_lt h0 h1
  clear hst h0 h1 h2 hR
  go_enter Try.func94, Try.ntmps94
  go_wp2
  go_loop [7, 8] (fun x t => ∃ k : Nat, ∃ o : Int, k ≤ count ∧ t = .int .i64 ((k : Int) - 1) ∧ x = .int .i64 o ∧ Hid (o = R / 2 ^ k)) (fun _ t => (intOf t + 1).toNat)
  case atStart => exact ⟨count, 0, Nat.le_refl _, rfl, rfl, HT.out.symm⟩
  case round =>
    obtain ⟨k, o, hk, rfl, rfl, ho⟩ := hrel
    by_cases hlt : 1 ≤ k
    · obtain ⟨j, rfl⟩ : ∃ j, k = j + 1 := ⟨k - 1, by omega⟩
      have ho0 : 0 ≤ o := by rw [ho.out]; exact Int.ediv_nonneg HB.out.1 (Int.le_of_lt (pow_pos _))
      have ho1 : o < 4294967296 := by
        rw [ho.out]
        have := Int.ediv_le_self (2 ^ (j + 1)) HB.out.1
        have := HB.out.2
        omega
      have HJ : Hid (R / 2 ^ j = 2 * o + bitT word (low + j)) := by
        have := HST.out j (by omega)
        rw [← ho.out] at this
        exact this
      have ej : ((j + 1 : Nat) : Int) - 1 = (j : Int) := by omega
      clear ho HST HB HT
      go_wp2_with fail
      refine (bit_any word (low + j) _ (by omega)).mono ?_
      rintro e w2 ⟨rfl, rfl⟩
      have hbd := bitT_bd word (low + j)
      generalize bitT word (low + j) = b at *
      have hb0 : 0 ≤ b := by omega
      have hb1 : b ≤ 1 := by omega
      clear hbd
      go_wp2
      go_round
      case rel => exact ⟨j, 2 * o + b, by omega, by go_num, by go_num, HJ.out.symm⟩
      case measure => simp [intOf]
    · obtain rfl : k = 0 := by omega
      have ho' : o = R := by rw [ho.out]; simp
      clear ho HST HB HT
      go_wp2
      go_ret
      exact ⟨rfl, rfl⟩
end Go.Proofs.Ytmahjgaaahkakaa
