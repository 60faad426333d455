/- The model's comparison of two lists of two numbers. -/
import Derived.Test.YtibepggakjfbcaaShwP
import Derived.WalkKit
import Derived.ProofKit
namespace Go.Proofs.Ytibepggakjfbcaa
open Go Go.RowKit
set_option linter.unusedVariables false

theorem ret_boolL {a b : Bool} (h : a = b) : Ending.returned (.bool a) = .returned (.bool b) := by rw [h]
theorem lessSpec (g h : Nat) (a b c d : Int) (w : World) (a0 : w.cell? ⟨g, 0, none⟩ = some (.int .i64 a)) (a1 : w.cell? ⟨g, 0 + 1, none⟩ = some (.int .i64 b)) (b0 : w.cell? ⟨h, 0, none⟩ = some (.int .i64 c)) (b1 : w.cell? ⟨h, 0 + 1, none⟩ = some (.int .i64 d)) :
    Calls Try.prog 47 #[.slice (some ⟨g, 0, none⟩) 2 2, .slice (some ⟨h, 0, none⟩) 2 2] w fun e w' => e = .returned (.bool (decide (a < c ∨ (a = c ∧ b < d)))) ∧ Below w.heap.size w w' := by
  go_enter Try.func47, Try.ntmps47
  go_wp2
  go_loopw [5] (fun i wr => ∃ k : Nat, k ≤ 2 ∧ i = .int .i64 k ∧ (0 < k → a = c) ∧ (1 < k → b = d) ∧ Below w.heap.size w wr) (fun i _ => 2 - (intOf i).toNat)
  case atStart => exact ⟨0, by omega, rfl, by omega, by omega, Below.refl _ _⟩
  case round =>
    obtain ⟨k, hk, rfl, h0, h1, hB⟩ := hrel
    have hlg : g < w.heap.size := World.block_lt_of_cell? w _ a0
    have hlh : h < w.heap.size := World.block_lt_of_cell? w _ b0
    have c0 := (hB.cell (p := ⟨g, 0, none⟩) hlg).trans a0
    have c1 := (hB.cell (p := ⟨g, 0 + 1, none⟩) hlg).trans a1
    have d0 := (hB.cell (p := ⟨h, 0, none⟩) hlh).trans b0
    have d1 := (hB.cell (p := ⟨h, 0 + 1, none⟩) hlh).trans b1
    have hB' := hB.drew
    have hB'' := hB'.drew
    have HB : Hid (Below w.heap.size w wr ∧ Below w.heap.size w wr.drew ∧ Below w.heap.size w wr.drew.drew) := ⟨hB, hB', hB''⟩
    clear hB hB' hB'' a0 a1 b0 b1
    have hk' : k = 0 ∨ k = 1 ∨ k = 2 := by omega
    rcases hk' with rfl | rfl | rfl
    · by_cases e : a = c
      · subst e
        go_wp2
        go_region
        all_goals
          go_wp2
          go_roundw
          case rel => exact ⟨1, by omega, by go_num, by simp, by simp, by first | exact HB.out.2.1 | exact HB.out.1 | exact HB.out.2.2⟩
          case measure => simp [intOf]
      · have eb : (a != c) = true := by simpa using e
        go_wp2
        go_region
        all_goals
          go_wp2
          go_region
          all_goals
            go_wp2
            go_ret
            exact ⟨ret_boolL (by first | (simp; done) | simp [e]), by first | exact HB.out.2.2 | exact HB.out.2.1 | exact HB.out.1⟩
    · obtain rfl := h0 (by omega)
      by_cases e : b = d
      · subst e
        go_wp2
        go_region
        all_goals
          go_wp2
          go_roundw
          case rel => exact ⟨2, by omega, by go_num, by simp, by simp, by first | exact HB.out.2.1 | exact HB.out.1 | exact HB.out.2.2⟩
          case measure => simp [intOf]
      · have eb : (b != d) = true := by simpa using e
        go_wp2
        go_region
        all_goals
          go_wp2
          go_region
          all_goals
            go_wp2
            go_ret
            exact ⟨ret_boolL (by first | (simp; done) | simp [e]), by first | exact HB.out.2.2 | exact HB.out.2.1 | exact HB.out.1⟩
    · obtain rfl := h0 (by omega)
      obtain rfl := h1 (by omega)
      go_wp2
      go_ret
      exact ⟨ret_boolL (by simp), HB.out.1⟩

end Go.Proofs.Ytibepggakjfbcaa
