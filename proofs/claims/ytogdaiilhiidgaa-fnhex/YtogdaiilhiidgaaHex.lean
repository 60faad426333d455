/- Contracts of both HexOf at every text. -/
import Derived.Test.YtogdaiilhiidgaaHexA
namespace Go.Proofs.Ytogdaiilhiidgaa
open Go.RowKit

/-- The digits as both HexOf tell them, of any text. -/
def hexT (s : ByteArray) : List UInt8 := if 32768 < s.size then [] else hexL s.data.toList

theorem implHexT (s : ByteArray) (w : World) (hs : s.size ≤ maxLen) :
    Calls Try.prog 13 #[.string s] w fun e w' => e = .returned (.string ⟨(hexT s).toArray⟩) ∧ Below w.heap.size w w' := by
  unfold maxLen at hs
  by_cases h : 32768 < s.size
  · rw [show hexT s = [] from by unfold hexT; rw [if_pos h]]
    go_enter Try.func13, Try.ntmps13
    go_wp2
    go_ret
    exact ⟨rfl, Below.refl _ _⟩
  · rw [show hexT s = hexL s.data.toList from by unfold hexT; rw [if_neg h]]
    exact implHex0_any s w (by omega)

theorem specHexT (s : ByteArray) (w : World) (hs : s.size ≤ maxLen) :
    Calls Try.prog 15 #[.string s] w fun e w' => e = .returned (.string ⟨(hexT s).toArray⟩) ∧ Below w.heap.size w w' := by
  unfold maxLen at hs
  by_cases h : 32768 < s.size
  · rw [show hexT s = [] from by unfold hexT; rw [if_pos h]]
    go_enter Try.func15, Try.ntmps15
    go_wp2
    go_ret
    exact ⟨rfl, Below.refl _ _⟩
  · rw [show hexT s = hexL s.data.toList from by unfold hexT; rw [if_neg h]]
    go_enter Try.func15, Try.ntmps15
    go_wp2_with (go_at_call 23; refine (specHex0_any _ _ (by omega)).mono ?_; rintro e w' ⟨rfl, hb⟩)
    go_ret
    exact ⟨rfl, hb⟩
end Go.Proofs.Ytogdaiilhiidgaa
