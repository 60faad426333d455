/- Shadow variables: how long an answer's list is. -/
import Derived.Test.YtmbkkcdcccopiaaSpcE
namespace Go.Proofs.Ytmbkkcdcccopiaa
open Go Go.RowKit Go.Maps
set_option linter.unusedVariables false
theorem alcL_len (n : Nat) (S : Nat → ShwD) (d : ShwD) (h : n ≤ 16) : (alcL (lstS n S) d).length ≤ 20 := by
  unfold alcL
  have := lstS_len n S
  split
  · omega
  · split
    · omega
    · rw [insL_len]; omega
theorem putL_len (n : Nat) (S : Nat → ShwD) (d : ShwD) (h : n ≤ 16) : (putL (lstS n S) d).length ≤ 20 := by
  unfold putL
  have := lstS_len n S
  split
  · simp [setL]; omega
  · omega
theorem freL_len (n : Nat) (S : Nat → ShwD) (x : Int × Int) (h : n ≤ 16) : (freL (lstS n S) x).length ≤ 20 := by
  have h1 := List.length_filter_le (fun e : ShwD => decide (keyD e ≠ x)) (lstS n S)
  rw [lstS_len] at h1
  unfold freL
  omega
theorem fidL_len (n : Nat) (S : Nat → ShwD) (x : Int) (h : n ≤ 16) : (fidL (lstS n S) x).length ≤ 20 := by
  have h1 := List.length_filter_le (fun e : ShwD => decide (e.ix ≠ x)) (lstS n S)
  rw [lstS_len] at h1
  unfold fidL
  omega
theorem resIs_len0 {n : Nat} {S : Nat → ShwD} {x f0 f : Int} {L0 L : List ShwD} (h0 : n ≤ 16 → L0.length ≤ 20) (h : ResIs n S x L0 f0 L f) : L.length ≤ 1048576 := by
  rcases h with ⟨_, _, rfl⟩ | ⟨hok, _, rfl, _⟩
  · simp
  · have := h0 hok.1; omega
end Go.Proofs.Ytmbkkcdcccopiaa
