/- Contracts of the model's bits and signs. Bits laid into a word whose place is free, by the model: the contract. -/
import Derived.Test.YtjpdjalhhokghaaDoorRows
import Derived.Test.YtjpdjalhhokghaaDoorGXInstrOK13
import Derived.Test.YtjpdjalhhokghaaDoorGXEncode1
import Derived.Test.YtjpdjalhhokghaaDoorGXInstrOK14
namespace Go.Proofs.YtjpdjalhhokghaaDoor
open Go.RowKit
set_option linter.unusedVariables false

theorem bit_any (v : Int) (j : Nat) (w : World) (hj : j ≤ 63) :
    Calls Tryd.prog 96 #[.int .i64 v, .int .i64 j] w fun e w' => e = .returned (.int .i64 (bitT v j)) ∧ w' = w := by
  have hu := wrap_u64 v
  have hb := bit_u64 v j (by omega)
  have hn : (0 : Int) ≤ (u64 v : Int) / 2 ^ j := Int.ediv_nonneg (by omega) (Int.le_of_lt (pow_pos j))
  rcases bitT_bd v j with h | h
  · have r1 : (u64 v : Int) / 2 ^ j % 2 = 0 := hb.trans h
    have r2 : ((u64 v : Int) / 2 ^ j).tmod 2 = 0 := by rw [Int.tmod_eq_emod_of_nonneg hn]; exact r1
    have H : Hid (bitT v j = 0) := h
    clear hb h hn
    go_enter Tryd.func96, Tryd.ntmps96
    go_wp2
    go_ret
    exact ⟨congrArg (fun x => Ending.returned (.int .i64 x)) H.out.symm, rfl⟩
  · have r1 : (u64 v : Int) / 2 ^ j % 2 = 1 := hb.trans h
    have r2 : ((u64 v : Int) / 2 ^ j).tmod 2 = 1 := by rw [Int.tmod_eq_emod_of_nonneg hn]; exact r1
    have H : Hid (bitT v j = 1) := h
    clear hb h hn
    go_enter Tryd.func96, Tryd.ntmps96
    go_wp2
    go_ret
    exact ⟨congrArg (fun x => Ending.returned (.int .i64 x)) H.out.symm, rfl⟩

set_option maxRecDepth 100000 in
set_option maxHeartbeats 1000000 in
theorem specSign0 (v : Int) (c : Nat) (w : World) (h0 : 1 ≤ c) (h1 : c ≤ 64) :
    Calls Tryd.prog 58 #[.int .i64 v, .int .i64 c] w fun e w' => e = .returned (.int .i64 (sgn v c)) ∧ w' = w := by
  go_enter Tryd.func58, Tryd.ntmps58
  go_wp2
  go_loop [5, 6] (fun x t => ∃ k o : Nat, k ≤ 64 ∧ t = .int .i64 ((k : Int) - 1) ∧ x = .int .u64 (o : Int) ∧ Hid (o = sbits v c / 2 ^ k)) (fun _ t => (intOf t + 1).toNat)
  case atStart => exact ⟨64, 0, Nat.le_refl _, rfl, rfl, (sbits_top v c).symm⟩
  case round =>
    obtain ⟨k, o, hk, rfl, rfl, ho⟩ := hrel
    by_cases hlt : 1 ≤ k
    · obtain ⟨j, rfl⟩ : ∃ j, k = j + 1 := ⟨k - 1, by omega⟩
      have hol : o ≤ 9223372036854775807 := by rw [ho.out]; exact sbits_half v c j
      have hst := sbits_step v c j h0 (by omega)
      rw [← ho.out] at hst
      have HST : Hid (((sbits v c / 2 ^ j : Nat) : Int) = 2 * (o : Int) + bitT v (min j (c - 1))) := hst
      clear hst ho
      have ej : ((j + 1 : Nat) : Int) - 1 = (j : Int) := by omega
      by_cases hjc : j ≤ c - 1
      · rw [Nat.min_eq_left hjc] at HST
        have hjc' : (j : Int) ≤ (c : Int) - 1 := by omega
        have hbd := bitT_bd v j
        go_wp2_with fail
        refine (bit_any v j _ (by omega)).mono ?_
        rintro e w2 ⟨rfl, rfl⟩
        generalize bitT v j = b at *
        obtain ⟨b, rfl⟩ := Int.eq_ofNat_of_zero_le (show 0 ≤ b by omega)
        have hb1 : b ≤ 1 := by omega
        clear hbd hjc hjc'
        go_wp2
        go_round
        case rel => exact ⟨j, 2 * o + b, by omega, rfl, by go_num, by have := HST.out; show _ = _; omega⟩
        case measure => simp [intOf]
      · rw [Nat.min_eq_right (by omega)] at HST
        obtain ⟨m, hm⟩ : ∃ m, m = c - 1 := ⟨_, rfl⟩
        rw [← hm] at HST hjc
        have em : (c : Int) - 1 = (m : Int) := by omega
        have hm63 : m ≤ 63 := by omega
        clear hm
        have hjc' : (m : Int) < (j : Int) := by omega
        have hbd := bitT_bd v m
        go_wp2_with fail
        refine (bit_any v m _ hm63).mono ?_
        rintro e w2 ⟨rfl, rfl⟩
        generalize bitT v m = b at *
        obtain ⟨b, rfl⟩ := Int.eq_ofNat_of_zero_le (show 0 ≤ b by omega)
        have hb1 : b ≤ 1 := by omega
        clear hbd hjc hjc'
        go_wp2
        go_round
        case rel => exact ⟨j, 2 * o + b, by omega, rfl, by go_num, by have := HST.out; show _ = _; omega⟩
        case measure => simp [intOf]
    · obtain rfl : k = 0 := by omega
      have ho' : o = sbits v c := by rw [ho.out]; simp
      have hz : IntKind.i64.wrap (o : Int) = sgn v c := by rw [ho']; exact sbits_back v c h0 h1
      clear ho ho'
      go_wp2
      go_ret
      exact ⟨rfl, rfl⟩

end Go.Proofs.YtjpdjalhhokghaaDoor

namespace Go.Proofs.YtjpdjalhhokghaaDoor
open Go.RowKit
set_option linter.unusedVariables false

theorem putStep (word v : Int) (low count k : Nat) (hw : 0 ≤ word) (hz : word / 2 ^ low % 2 ^ count = 0) :
    putT word v low count / 2 ^ k = 2 * (putT word v low count / 2 ^ (k + 1)) + (if low ≤ k ∧ k < low + count then bitT v (k - low) else bitT word k) := by
  rw [← put_bit word v low count k hw hz]
  exact int_half _ k

set_option maxRecDepth 100000 in
set_option maxHeartbeats 4000000 in
theorem putC (word v : Int) (low count : Nat) (w : World) (hw : 0 ≤ word) (hw2 : word < 4294967296) (h : low + count ≤ 32) (hz : word / 2 ^ low % 2 ^ count = 0) :
    Calls Tryd.prog 104 #[.int .i64 word, .int .i64 low, .int .i64 count, .int .i64 v] w fun e w' => e = .returned (.int .i64 (putT word v low count)) ∧ w' = w := by
  have hbd := put_bd word v low count hw hw2 h hz
  have hst := fun k => putStep word v low count k hw hz
  obtain ⟨R, hR⟩ : ∃ R, R = putT word v low count := ⟨_, rfl⟩
  rw [← hR] at hbd hst
  rw [← hR]
  clear hR hw hw2 hz
  obtain ⟨hR0, hR1⟩ := hbd
  have hR1' : R < 4294967296 := hR1
  have HST : Hid (∀ k, R / 2 ^ k = 2 * (R / 2 ^ (k + 1)) + (if low ≤ k ∧ k < low + count then bitT v (k - low) else bitT word k)) := hst
  have HB : Hid (0 ≤ R ∧ R < 4294967296) := ⟨hR0, hR1'⟩
  clear hst hR0 hR1 hR1'
  go_enter Tryd.func104, Tryd.ntmps104
  go_wp2
  go_loop [9, 10] (fun x t => ∃ k : Nat, ∃ o : Int, k ≤ 32 ∧ t = .int .i64 ((k : Int) - 1) ∧ x = .int .i64 o ∧ Hid (o = R / 2 ^ k)) (fun _ t => (intOf t + 1).toNat)
  case atStart => exact ⟨32, 0, Nat.le_refl _, rfl, rfl, (Int.ediv_eq_zero_of_lt HB.out.1 HB.out.2).symm⟩
  case round =>
    obtain ⟨k, o, hk, rfl, rfl, ho⟩ := hrel
    by_cases hlt : 1 ≤ k
    · obtain ⟨j, rfl⟩ : ∃ j, k = j + 1 := ⟨k - 1, by omega⟩
      have ho0 : 0 ≤ o := by rw [ho.out]; exact Int.ediv_nonneg HB.out.1 (Int.le_of_lt (pow_pos _))
      have ho1 : o < 4294967296 := by
        rw [ho.out]
        have := Int.ediv_le_self (2 ^ (j + 1)) HB.out.1
        have := HB.out.2
        omega
      have HJ : Hid (R / 2 ^ j = 2 * o + (if low ≤ j ∧ j < low + count then bitT v (j - low) else bitT word j)) := by
        have := HST.out j
        rw [← ho.out] at this
        exact this
      have ej : ((j + 1 : Nat) : Int) - 1 = (j : Int) := by omega
      clear ho HST HB
      by_cases h1 : low ≤ j
      · by_cases h2 : j < low + count
        · obtain ⟨m, rfl⟩ : ∃ m, j = low + m := ⟨j - low, by omega⟩
          rw [if_pos ⟨h1, h2⟩, Nat.add_sub_cancel_left] at HJ
          have hm : (low : Int) + (m : Int) - (low : Int) = (m : Int) := by omega
          go_wp2_with fail
          refine (bit_any word (low + m) _ (by omega)).mono ?_
          rintro e w2 ⟨rfl, rfl⟩
          go_wp2_with fail
          refine (bit_any v m _ (by omega)).mono ?_
          rintro e w2 ⟨rfl, rfl⟩
          have hbd := bitT_bd v m
          generalize bitT v m = b at *
          have hb0 : 0 ≤ b := by omega
          have hb1 : b ≤ 1 := by omega
          clear hbd h1 h2
          go_wp2
          go_round
          case rel => exact ⟨low + m, 2 * o + b, by omega, by go_num, by go_num, HJ.out.symm⟩
          case measure => simp [intOf]; omega
        · rw [if_neg (by omega)] at HJ
          have h2i : (low : Int) + (count : Int) ≤ (j : Int) := by omega
          clear h2
          go_wp2_with fail
          refine (bit_any word j _ (by omega)).mono ?_
          rintro e w2 ⟨rfl, rfl⟩
          have hbd := bitT_bd word j
          generalize bitT word j = b at *
          have hb0 : 0 ≤ b := by omega
          have hb1 : b ≤ 1 := by omega
          clear hbd h1
          go_wp2
          go_round
          case rel => exact ⟨j, 2 * o + b, by omega, by go_num, by go_num, HJ.out.symm⟩
          case measure => simp [intOf]
      · rw [if_neg (by omega)] at HJ
        have h1i : (j : Int) < (low : Int) := by omega
        go_wp2_with fail
        refine (bit_any word j _ (by omega)).mono ?_
        rintro e w2 ⟨rfl, rfl⟩
        have hbd := bitT_bd word j
        generalize bitT word j = b at *
        have hb0 : 0 ≤ b := by omega
        have hb1 : b ≤ 1 := by omega
        clear hbd h1
        go_wp2
        go_round
        case rel => exact ⟨j, 2 * o + b, by omega, by go_num, by go_num, HJ.out.symm⟩
        case measure => simp [intOf]
    · obtain rfl : k = 0 := by omega
      have ho' : o = R := by rw [ho.out]; simp
      clear ho HST HB
      go_wp2
      go_ret
      exact ⟨rfl, rfl⟩
end Go.Proofs.YtjpdjalhhokghaaDoor
