/- Branches: the model's. -/
import Derived.Test.YtmahjgaaahkakaaTknB
import Derived.Test.YtmahjgaaahkakaaShp6
namespace Go.Proofs.Ytmahjgaaahkakaa
open Go.RowKit
set_option linter.unusedVariables false

theorem takIn5 (a b : Int) (w : World) :
    Calls Try.prog 50 #[.int .i64 5, .int .i64 a, .int .i64 b] w fun e w' => e = .returned (.bool (takB 5 a b)) ∧ w' = w := by
  go_enter Try.func50, Try.ntmps50
  go_wp2
  go_ret
  exact ⟨ret_bool (by first | rfl | simp [takB]), rfl⟩

theorem takIn6 (a b : Int) (w : World) :
    Calls Try.prog 50 #[.int .i64 6, .int .i64 a, .int .i64 b] w fun e w' => e = .returned (.bool (takB 6 a b)) ∧ w' = w := by
  go_enter Try.func50, Try.ntmps50
  go_wp2
  go_ret
  exact ⟨ret_bool (by first | rfl | simp [takB]), rfl⟩

theorem takIn7 (a b : Int) (w : World) :
    Calls Try.prog 50 #[.int .i64 7, .int .i64 a, .int .i64 b] w fun e w' => e = .returned (.bool (takB 7 a b)) ∧ w' = w := by
  go_enter Try.func50, Try.ntmps50
  go_wp2
  go_ret
  exact ⟨ret_bool (by first | rfl | simp [takB]), rfl⟩

theorem takIn8 (a b : Int) (w : World) :
    Calls Try.prog 50 #[.int .i64 8, .int .i64 a, .int .i64 b] w fun e w' => e = .returned (.bool (takB 8 a b)) ∧ w' = w := by
  go_enter Try.func50, Try.ntmps50
  go_wp2
  go_ret
  exact ⟨ret_bool (by first | rfl | simp [takB]), rfl⟩

theorem takIn9 (a b : Int) (w : World) :
    Calls Try.prog 50 #[.int .i64 9, .int .i64 a, .int .i64 b] w fun e w' => e = .returned (.bool (takB 9 a b)) ∧ w' = w := by
  go_enter Try.func50, Try.ntmps50
  go_wp2_with fail
  refine (specBelow a b _).mono ?_
  rintro e w3 ⟨rfl, rfl⟩
  go_wp2
  go_ret
  exact ⟨ret_bool (by first | rfl | simp [takB]), rfl⟩

theorem takIn10 (a b : Int) (w : World) :
    Calls Try.prog 50 #[.int .i64 10, .int .i64 a, .int .i64 b] w fun e w' => e = .returned (.bool (takB 10 a b)) ∧ w' = w := by
  go_enter Try.func50, Try.ntmps50
  go_wp2_with fail
  refine (specBelow a b _).mono ?_
  rintro e w3 ⟨rfl, rfl⟩
  go_wp2
  go_ret
  exact ⟨ret_bool (by first | rfl | simp [takB]), rfl⟩

theorem takIn (op a b : Int) (w : World) (h0 : 5 ≤ op) (h1 : op ≤ 10) :
    Calls Try.prog 50 #[.int .i64 op, .int .i64 a, .int .i64 b] w fun e w' => e = .returned (.bool (takB op a b)) ∧ w' = w := by
  rcases (show op = 5 ∨ op = 6 ∨ op = 7 ∨ op = 8 ∨ op = 9 ∨ op = 10 by omega) with rfl | rfl | rfl | rfl | rfl | rfl
  · exact takIn5 a b w
  · exact takIn6 a b w
  · exact takIn7 a b w
  · exact takIn8 a b w
  · exact takIn9 a b w
  · exact takIn10 a b w

theorem form4 (op : Int) (h0 : 5 ≤ op) (h1 : op ≤ 10) : (shT op).1 = 4 := by
  rcases (show op = 5 ∨ op = 6 ∨ op = 7 ∨ op = 8 ∨ op = 9 ∨ op = 10 by omega) with rfl | rfl | rfl | rfl | rfl | rfl <;> decide
theorem form4not (op : Int) (h : op < 5 ∨ 10 < op) : (shT op).1 ≠ 4 := by
  by_cases h1 : op < 1 ∨ 64 < op
  · rw [shT_out op h1]; decide
  · have hall : ∀ j : Nat, j < 65 → (j < 5 ∨ 10 < j) → (shT (j : Int)).1 ≠ 4 := by decide +kernel
    obtain ⟨j, rfl⟩ := Int.eq_ofNat_of_zero_le (show 0 ≤ op by omega)
    exact hall j (by omega) (by omega)

theorem takSpecNo (op a b : Int) (w : World) (h : op < 1 ∨ 64 < op) :
    Calls Try.prog 27 #[.int .i64 op, .int .i64 a, .int .i64 b] w fun e w' => e = .returned (.tuple #[.bool false, .int .i64 4]) ∧ w' = w := by
  go_enter Try.func27, Try.ntmps27
  go_wp2_with fail
  refine (opNo op w h).mono ?_
  rintro e w1 ⟨rfl, rfl⟩
  clear h
  go_wp2
  go_ret2
  exact ⟨rfl, rfl⟩
theorem shField (op : Int) (w : World) : (Instr.field 58 (shV (shT op)) 0).run Try.prog w = .ok (.int .i64 (shT op).1) w := by
  unfold shV
  kernel_rfl
theorem takSpecKind (op a b : Int) (w : World) (h0 : 1 ≤ op) (h1 : op ≤ 64) (h : op < 5 ∨ 10 < op) :
    Calls Try.prog 27 #[.int .i64 op, .int .i64 a, .int .i64 b] w fun e w' => e = .returned (.tuple #[.bool false, .int .i64 26]) ∧ Below w.heap.size w w' := by
  have hf := shField op
  have hn := form4not op h
  have hn' : ((shT op).1 == 4) = false := beq_eq_false_iff_ne.2 hn
  clear hn h
  go_enter Try.func27, Try.ntmps27
  go_wp2_with fail
  refine (opYes op w h0 h1).mono ?_
  rintro e w1 ⟨rfl, rfl⟩
  go_wp2_with fail
  refine (specShC op w1).mono ?_
  rintro e w2 ⟨rfl, hb⟩
  go_wp2
  go_ret2
  exact ⟨rfl, hb⟩
theorem takSpec (op a b : Int) (w : World) (h0 : 5 ≤ op) (h1 : op ≤ 10) :
    Calls Try.prog 27 #[.int .i64 op, .int .i64 a, .int .i64 b] w fun e w' => e = .returned (.tuple #[.bool (takB op a b), .int .i64 0]) ∧ Below w.heap.size w w' := by
  have hf := shField op
  have hn := form4 op h0 h1
  rw [hn] at hf
  clear hn
  go_enter Try.func27, Try.ntmps27
  go_wp2_with fail
  refine (opYes op w (by omega) (by omega)).mono ?_
  rintro e w1 ⟨rfl, rfl⟩
  go_wp2_with fail
  refine (specShC op w1).mono ?_
  rintro e w2 ⟨rfl, hb⟩
  go_wp2_with fail
  refine (takIn op a b w2 h0 h1).mono ?_
  rintro e w3 ⟨rfl, rfl⟩
  go_wp2
  go_ret2
  exact ⟨rfl, hb⟩
end Go.Proofs.Ytmahjgaaahkakaa
