/- Contracts of both NameOK: they tell the same of each text. -/
import Derived.Test.YtdcjddiigipdmaaName
import Derived.Outline
namespace Go.Proofs.Ytdcjddiigipdmaa
open Go.RowKit

set_option maxHeartbeats 400000 in
theorem implName_any (s : ByteArray) (w : World) (hs : s.size ≤ maxLen) :
    Calls Try.prog 81 #[.string s] w fun e w' => e = .returned (.bool (nameB s)) ∧ w' = w := by
  unfold maxLen at hs
  by_cases h1 : s.size < 1
  · go_enter Try.func81, Try.ntmps81
    go_wp2
    go_ret
    exact ⟨ret_bool (nameB_short s (by omega)).symm, rfl⟩
  by_cases h2 : 20 < s.size
  · go_enter Try.func81, Try.ntmps81
    go_wp2
    go_ret
    exact ⟨ret_bool (nameB_long s (by omega)).symm, rfl⟩
  have h0 : 0 < s.size := by omega
  by_cases hd : digitB s[0].toNat = true
  · have hl : letterB s[0].toNat = false := by
      rw [Bool.eq_false_iff]; intro h
      rw [letter_not_digit _ h] at hd; simp at hd
    have HN : Hid (nameB s = false) := nameB_head s h0 hl
    clear hl
    go_enter Try.func81, Try.ntmps81
    go_wp2_with (go_at_call 117; refine (isDigit_any _ _).mono ?_; rintro e w' ⟨rfl, rfl⟩)
    go_ret
    exact ⟨ret_bool HN.out.symm, rfl⟩
  have hd' : digitB s[0].toNat = false := by simpa using hd
  clear hd
  go_enter Try.func81, Try.ntmps81
  go_wp2_with (go_at_call 117; refine (isDigit_any _ _).mono ?_; rintro e w' ⟨rfl, rfl⟩)
  go_loop [19] (fun t => ∃ k : Nat, k ≤ s.size ∧ t = .int .i64 k ∧ Hid (∀ j (h : j < s.size), j < k → signB s[j].toNat = true)) (fun t => s.size - (intOf t).toNat)
  case atStart => exact ⟨0, Nat.zero_le _, rfl, fun j _ h => absurd h (by omega)⟩
  case round =>
    obtain ⟨k, hk, rfl, hall⟩ := hrel
    by_cases hlt : k < s.size
    · by_cases hb : signB s[k].toNat = true
      · cases hl : letterB s[k].toNat <;> cases hg : digitB s[k].toNat
        all_goals try (simp [signB, hl, hg] at hb; done)
        all_goals
          go_wp2_with (first
            | (go_at_call 117; refine (isDigit_any _ _).mono ?_; rintro e w' ⟨rfl, rfl⟩)
            | (go_at_call 118; refine (isLetter_any _ _).mono ?_; rintro e w' ⟨rfl, rfl⟩))
          go_round
          case rel => exact ⟨k + 1, by omega, by go_num, fun j hj hjk => by
            by_cases e : j = k
            · subst e; exact hb
            · exact hall.out j hj (by omega)⟩
          case measure => simp [intOf]; omega
      · have hb' : signB s[k].toNat = false := by simpa using hb
        have HN : Hid (nameB s = false) := nameB_at s k hlt hb'
        have hl : letterB s[k].toNat = false := by simp [signB] at hb'; exact hb'.1
        have hg : digitB s[k].toNat = false := by simp [signB] at hb'; exact hb'.2
        clear hb hb'
        go_wp2_with (first
          | (go_at_call 117; refine (isDigit_any _ _).mono ?_; rintro e w' ⟨rfl, rfl⟩)
          | (go_at_call 118; refine (isLetter_any _ _).mono ?_; rintro e w' ⟨rfl, rfl⟩))
        go_ret
        exact ⟨ret_bool HN.out.symm, rfl⟩
    · go_wp2
      go_ret
      have ha : ∀ j (h : j < s.size), signB s[j].toNat = true := fun j hj => hall.out j hj (by omega)
      have hl : letterB s[0].toNat = true := by
        have := ha 0 h0
        simpa [signB, hd'] using this
      exact ⟨ret_bool (nameB_yes s (by omega) (by omega) hl ha).symm, rfl⟩

set_option maxHeartbeats 400000 in
theorem specWord_any (s : ByteArray) (w : World) (hs : s.size ≤ maxLen) :
    Calls Try.prog 71 #[.string s] w fun e w' => e = .returned (.bool (nameB s)) ∧ w' = w := by
  unfold maxLen at hs
  by_cases h1 : s.size < 1
  · go_enter Try.func71, Try.ntmps71
    go_wp2
    go_ret
    exact ⟨ret_bool (nameB_short s (by omega)).symm, rfl⟩
  by_cases h2 : 20 < s.size
  · go_enter Try.func71, Try.ntmps71
    go_wp2
    go_ret
    exact ⟨ret_bool (nameB_long s (by omega)).symm, rfl⟩
  have h0 : 0 < s.size := by omega
  by_cases hd : letterB s[0].toNat = true
  · go_enter Try.func71, Try.ntmps71
    go_wp2_with (go_at_call 112; refine (l00Letter_any _ _).mono ?_; rintro e w' ⟨rfl, rfl⟩)
    go_loop [3] (fun t => ∃ k : Nat, 1 ≤ k ∧ k ≤ s.size ∧ t = .int .i64 k ∧ Hid (∀ j (h : j < s.size), j < k → signB s[j].toNat = true)) (fun t => s.size - (intOf t).toNat)
    case atStart => exact ⟨1, Nat.le_refl _, by omega, rfl, fun j _ h => by
      obtain rfl : j = 0 := by omega
      simp [signB, hd]⟩
    case round =>
      obtain ⟨k, hk1, hk, rfl, hall⟩ := hrel
      by_cases hlt : k < s.size
      · by_cases hb : signB s[k].toNat = true
        · cases hl : letterB s[k].toNat <;> cases hg : digitB s[k].toNat
          all_goals try (simp [signB, hl, hg] at hb; done)
          all_goals
            go_wp2_with (first
              | (go_at_call 112; refine (l00Letter_any _ _).mono ?_; rintro e w' ⟨rfl, rfl⟩)
              | (go_at_call 113; refine (l00Digit_any _ _).mono ?_; rintro e w' ⟨rfl, rfl⟩))
            go_round
            case rel => exact ⟨k + 1, by omega, by omega, by go_num, fun j hj hjk => by
              by_cases e : j = k
              · subst e; exact hb
              · exact hall.out j hj (by omega)⟩
            case measure => simp [intOf]; omega
        · have hb' : signB s[k].toNat = false := by simpa using hb
          have HN : Hid (nameB s = false) := nameB_at s k hlt hb'
          have hl : letterB s[k].toNat = false := by simp [signB] at hb'; exact hb'.1
          have hg : digitB s[k].toNat = false := by simp [signB] at hb'; exact hb'.2
          clear hb hb'
          go_wp2_with (first
            | (go_at_call 112; refine (l00Letter_any _ _).mono ?_; rintro e w' ⟨rfl, rfl⟩)
            | (go_at_call 113; refine (l00Digit_any _ _).mono ?_; rintro e w' ⟨rfl, rfl⟩))
          go_ret
          exact ⟨ret_bool HN.out.symm, rfl⟩
      · go_wp2
        go_ret
        have ha : ∀ j (h : j < s.size), signB s[j].toNat = true := fun j hj => hall.out j hj (by omega)
        exact ⟨ret_bool (nameB_yes s (by omega) (by omega) hd ha).symm, rfl⟩
  · have hl : letterB s[0].toNat = false := by simpa using hd
    have HN : Hid (nameB s = false) := nameB_head s h0 hl
    clear hd
    go_enter Try.func71, Try.ntmps71
    go_wp2_with (go_at_call 112; refine (l00Letter_any _ _).mono ?_; rintro e w' ⟨rfl, rfl⟩)
    go_ret
    exact ⟨ret_bool HN.out.symm, rfl⟩

end Go.Proofs.Ytdcjddiigipdmaa
