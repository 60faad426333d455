/- A register that is laid: both agree. -/
import Derived.Test.YtjpdjalhhokghaaDoorHrtI
namespace Go.Proofs.YtjpdjalhhokghaaDoor
open Go.RowKit
set_option linter.unusedVariables false

theorem setBoth (R : Nat → Int) (pc r v : Int) : ∃ (S : Nat → Int) (q c : Int),
    (∀ w : World, Calls Tryd.prog 38 #[.agg (hartC R pc), .int .i64 r, .int .i64 v] w fun e w' => e = .returned (.tuple #[.agg (hartC S q), .int .i64 c]) ∧ Below w.heap.size w w') ∧
    (∀ w : World, Laid w → Calls Tryd.prog 40 #[.agg (hartC R pc), .int .i64 r, .int .i64 v] w fun e w' => e = .returned (.tuple #[.agg (hartC S q), .int .i64 c]) ∧ Below w.heap.size w w') := by
  by_cases h : R 0 = 0
  · by_cases hr : 0 ≤ r ∧ r ≤ 31
    · obtain ⟨k, rfl⟩ := Int.eq_ofNat_of_zero_le hr.1
      by_cases h0 : 0 < k
      · exact ⟨putR R k v, pc, 0, fun w => specRegYes R pc v k (by omega) w h, fun w _ => regPos R pc v k (by omega) h0 w h⟩
      · obtain rfl : k = 0 := by omega
        refine ⟨R, pc, 0, fun w => ?_, fun w _ => regZero R pc v w h⟩
        have := specRegYes R pc v 0 (by omega) w h
        rw [show putR R ((0 : Nat) : Int) v = R from putR_zero R v] at this
        exact this
    · have hr' : r < 0 ∨ 31 < r := by omega
      exact ⟨_, _, 4, fun w => specRegNo R pc r v w h hr', fun w hL => by obtain ⟨a0, a1, hL⟩ := hL; exact regNo R pc r v w a0 a1 hL h hr'⟩
  · exact ⟨_, _, 1, fun w => specRegBad R pc r v w h, fun w _ => regBad R pc r v w h⟩
end Go.Proofs.YtjpdjalhhokghaaDoor
