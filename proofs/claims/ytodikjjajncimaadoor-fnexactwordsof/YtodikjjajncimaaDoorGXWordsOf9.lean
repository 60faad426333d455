/- Bits laid into a word whose place is free, by the model: the contract. Contract of the model's test of bounds. -/
import Derived.Test.YtodikjjajncimaaDoorGXWordsOf6
import Derived.Test.YtodikjjajncimaaDoorGXWordsOf3
import Derived.Test.YtodikjjajncimaaDoorGXWordsOf8
import Derived.Test.YtodikjjajncimaaDoorRows
import Derived.WalkKit
import Derived.WalkSpells
import Derived.ProofKit
namespace Go.Proofs.YtodikjjajncimaaDoor
open Go.RowKit
set_option linter.unusedVariables false

theorem putStep (word v : Int) (low count k : Nat) (hw : 0 ≤ word) (hz : word / 2 ^ low % 2 ^ count = 0) :
    putT word v low count / 2 ^ k = 2 * (putT word v low count / 2 ^ (k + 1)) + (if low ≤ k ∧ k < low + count then bitT v (k - low) else bitT word k) := by
  rw [← put_bit word v low count k hw hz]
  exact int_half _ k

set_option maxRecDepth 100000 in
set_option maxHeartbeats 4000000 in
theorem putC (word v : Int) (low count : Nat) (w : World) (hw : 0 ≤ word) (hw2 : word < 4294967296) (h : low + count ≤ 32) (hz : word / 2 ^ low % 2 ^ count = 0) :
    Calls Tryd.prog 87 #[.int .i64 word, .int .i64 low, .int .i64 count, .int .i64 v] w fun e w' => e = .returned (.int .i64 (putT word v low count)) ∧ w' = w := by
  have hbd := put_bd word v low count hw hw2 h hz
  have hst := fun k => putStep word v low count k hw hz
  obtain ⟨R, hR⟩ : ∃ R, R = putT word v low count := ⟨_, rfl⟩
  rw [← hR] at hbd hst
  rw [← hR]
  clear hR hw hw2 hz
  obtain ⟨hR0, hR1⟩ := hbd
  have hR1' : R < 4294967296 := hR1
  have HST : Hid (∀ k, R / 2 ^ k = 2 * (R / 2 ^ (k + 1)) + (if low ≤ k ∧ k < low + count then bitT v (k - low) else bitT word k)) := hst
  have HB : Hid (0 ≤ R ∧ R < 4294967296) := ⟨hR0, hR1'⟩
  clear hst hR0 hR1 hR1'
  go_enter Tryd.func87, Tryd.ntmps87
  go_wp2
  go_loop [9, 10] (fun x t => ∃ k : Nat, ∃ o : Int, k ≤ 32 ∧ t = .int .i64 ((k : Int) - 1) ∧ x = .int .i64 o ∧ Hid (o = R / 2 ^ k)) (fun _ t => (intOf t + 1).toNat)
  case atStart => exact ⟨32, 0, Nat.le_refl _, rfl, rfl, (Int.ediv_eq_zero_of_lt HB.out.1 HB.out.2).symm⟩
  case round =>
    obtain ⟨k, o, hk, rfl, rfl, ho⟩ := hrel
    by_cases hlt : 1 ≤ k
    · obtain ⟨j, rfl⟩ : ∃ j, k = j + 1 := ⟨k - 1, by omega⟩
      have ho0 : 0 ≤ o := by rw [ho.out]; exact Int.ediv_nonneg HB.out.1 (Int.le_of_lt (pow_pos _))
      have ho1 : o < 4294967296 := by
        rw [ho.out]
        have := Int.ediv_le_self (2 ^ (j + 1)) HB.out.1
        have := HB.out.2
        omega
      have HJ : Hid (R / 2 ^ j = 2 * o + (if low ≤ j ∧ j < low + count then bitT v (j - low) else bitT word j)) := by
        have := HST.out j
        rw [← ho.out] at this
        exact this
      have ej : ((j + 1 : Nat) : Int) - 1 = (j : Int) := by omega
      clear ho HST HB
      by_cases h1 : low ≤ j
      · by_cases h2 : j < low + count
        · obtain ⟨m, rfl⟩ : ∃ m, j = low + m := ⟨j - low, by omega⟩
          rw [if_pos ⟨h1, h2⟩, Nat.add_sub_cancel_left] at HJ
          have hm : (low : Int) + (m : Int) - (low : Int) = (m : Int) := by omega
          go_wp2_with fail
          refine (bit_any word (low + m) _ (by omega)).mono ?_
          rintro e w2 ⟨rfl, rfl⟩
          go_wp2_with fail
          refine (bit_any v m _ (by omega)).mono ?_
          rintro e w2 ⟨rfl, rfl⟩
          have hbd := bitT_bd v m
          generalize bitT v m = b at *
          have hb0 : 0 ≤ b := by omega
          have hb1 : b ≤ 1 := by omega
          clear hbd h1 h2
          go_wp2
          go_round
          case rel => exact ⟨low + m, 2 * o + b, by omega, by go_num, by go_num, HJ.out.symm⟩
          case measure => simp [intOf]; omega
        · rw [if_neg (by omega)] at HJ
          have h2i : (low : Int) + (count : Int) ≤ (j : Int) := by omega
          clear h2
          go_wp2_with fail
          refine (bit_any word j _ (by omega)).mono ?_
          rintro e w2 ⟨rfl, rfl⟩
          have hbd := bitT_bd word j
          generalize bitT word j = b at *
          have hb0 : 0 ≤ b := by omega
          have hb1 : b ≤ 1 := by omega
          clear hbd h1
          go_wp2
          go_round
          case rel => exact ⟨j, 2 * o + b, by omega, by go_num, by go_num, HJ.out.symm⟩
          case measure => simp [intOf]
      · rw [if_neg (by omega)] at HJ
        have h1i : (j : Int) < (low : Int) := by omega
        go_wp2_with fail
        refine (bit_any word j _ (by omega)).mono ?_
        rintro e w2 ⟨rfl, rfl⟩
        have hbd := bitT_bd word j
        generalize bitT word j = b at *
        have hb0 : 0 ≤ b := by omega
        have hb1 : b ≤ 1 := by omega
        clear hbd h1
        go_wp2
        go_round
        case rel => exact ⟨j, 2 * o + b, by omega, by go_num, by go_num, HJ.out.symm⟩
        case measure => simp [intOf]
    · obtain rfl : k = 0 := by omega
      have ho' : o = R := by rw [ho.out]; simp
      clear ho HST HB
      go_wp2
      go_ret
      exact ⟨rfl, rfl⟩
end Go.Proofs.YtodikjjajncimaaDoor

namespace Go.Proofs.YtodikjjajncimaaDoor
open Go.RowKit
set_option linter.unusedVariables false

theorem spIn (x low high : Int) (w : World) (b : Bool) (h : (b = true ∧ low ≤ x ∧ x ≤ high) ∨ (b = false ∧ (x < low ∨ high < x))) :
    Calls Tryd.prog 67 #[.int .i64 x, .int .i64 low, .int .i64 high] w fun e w' => e = .returned (.bool b) ∧ w' = w := by
  rcases h with ⟨rfl, h0, h1⟩ | ⟨rfl, h⟩
  · go_enter Tryd.func67, Tryd.ntmps67
    go_wp2
    go_ret
    refine ⟨congrArg (fun x => Ending.returned (.bool x)) ?_, rfl⟩
    first | rfl | (simp; done) | (simp; omega)
  · by_cases h0 : x < low
    · go_enter Tryd.func67, Tryd.ntmps67
      go_wp2
      go_ret
      refine ⟨congrArg (fun x => Ending.returned (.bool x)) ?_, rfl⟩
      first | rfl | (simp; done) | (simp; omega)
    · have h1 : high < x := by omega
      clear h
      go_enter Tryd.func67, Tryd.ntmps67
      go_wp2
      go_ret
      refine ⟨congrArg (fun x => Ending.returned (.bool x)) ?_, rfl⟩
      first | rfl | (simp; done) | (simp; omega)

end Go.Proofs.YtodikjjajncimaaDoor
