/- Branches: the program's. -/
import Derived.Test.YtmahjgaaahkakaaTknA
namespace Go.Proofs.Ytmahjgaaahkakaa
open Go.RowKit
set_option linter.unusedVariables false

theorem ret_tak {x y : Bool} {c d : Int} (k : x = y) (l : c = d) : Ending.returned (.tuple #[.bool x, .int .i64 c]) = .returned (.tuple #[.bool y, .int .i64 d]) := by rw [k, l]
theorem ret_bool {x y : Bool} (k : x = y) : Ending.returned (.bool x) = .returned (.bool y) := by rw [k]
/-- Whether a branch goes. -/
def takB (op a b : Int) : Bool := if op = 5 then a == b else if op = 6 then a != b else if op = 7 then decide (a < b) else if op = 8 then decide (b ≤ a) else if op = 9 then belB a b else !belB a b

theorem takImpl5 (a b : Int) (w : World) :
    Calls Try.prog 26 #[.int .i64 5, .int .i64 a, .int .i64 b] w fun e w' => e = .returned (.tuple #[.bool (takB 5 a b), .int .i64 0]) ∧ Below w.heap.size w w' := by
  have hidx : ∀ w', (Instr.index 55 (.agg cmpsA) (.int .i64 5)).run Try.prog w' = .ok (.func (.func 102) #[] #[]) w' := fun w' => by kernel_rfl
  go_enter Try.func26, Try.ntmps26
  go_wp2_with fail
  refine (kindOk 5 5 10 w (by decide) (by decide) (by decide) (by decide)).mono ?_
  rintro e w1 ⟨rfl, rfl⟩
  go_wp2_with fail
  refine (cmpsC _).mono ?_
  rintro e w2 ⟨rfl, hb⟩
  go_wp2
  go_ret2
  exact ⟨ret_tak (by first | rfl | simp [takB]) rfl, hb⟩

theorem takImpl6 (a b : Int) (w : World) :
    Calls Try.prog 26 #[.int .i64 6, .int .i64 a, .int .i64 b] w fun e w' => e = .returned (.tuple #[.bool (takB 6 a b), .int .i64 0]) ∧ Below w.heap.size w w' := by
  have hidx : ∀ w', (Instr.index 55 (.agg cmpsA) (.int .i64 6)).run Try.prog w' = .ok (.func (.func 103) #[] #[]) w' := fun w' => by kernel_rfl
  go_enter Try.func26, Try.ntmps26
  go_wp2_with fail
  refine (kindOk 6 5 10 w (by decide) (by decide) (by decide) (by decide)).mono ?_
  rintro e w1 ⟨rfl, rfl⟩
  go_wp2_with fail
  refine (cmpsC _).mono ?_
  rintro e w2 ⟨rfl, hb⟩
  go_wp2
  go_ret2
  exact ⟨ret_tak (by first | rfl | simp [takB]) rfl, hb⟩

theorem takImpl7 (a b : Int) (w : World) :
    Calls Try.prog 26 #[.int .i64 7, .int .i64 a, .int .i64 b] w fun e w' => e = .returned (.tuple #[.bool (takB 7 a b), .int .i64 0]) ∧ Below w.heap.size w w' := by
  have hidx : ∀ w', (Instr.index 55 (.agg cmpsA) (.int .i64 7)).run Try.prog w' = .ok (.func (.func 104) #[] #[]) w' := fun w' => by kernel_rfl
  go_enter Try.func26, Try.ntmps26
  go_wp2_with fail
  refine (kindOk 7 5 10 w (by decide) (by decide) (by decide) (by decide)).mono ?_
  rintro e w1 ⟨rfl, rfl⟩
  go_wp2_with fail
  refine (cmpsC _).mono ?_
  rintro e w2 ⟨rfl, hb⟩
  go_wp2
  go_ret2
  exact ⟨ret_tak (by first | rfl | simp [takB]) rfl, hb⟩

theorem takImpl8 (a b : Int) (w : World) :
    Calls Try.prog 26 #[.int .i64 8, .int .i64 a, .int .i64 b] w fun e w' => e = .returned (.tuple #[.bool (takB 8 a b), .int .i64 0]) ∧ Below w.heap.size w w' := by
  have hidx : ∀ w', (Instr.index 55 (.agg cmpsA) (.int .i64 8)).run Try.prog w' = .ok (.func (.func 105) #[] #[]) w' := fun w' => by kernel_rfl
  go_enter Try.func26, Try.ntmps26
  go_wp2_with fail
  refine (kindOk 8 5 10 w (by decide) (by decide) (by decide) (by decide)).mono ?_
  rintro e w1 ⟨rfl, rfl⟩
  go_wp2_with fail
  refine (cmpsC _).mono ?_
  rintro e w2 ⟨rfl, hb⟩
  go_wp2
  go_ret2
  exact ⟨ret_tak (by first | rfl | simp [takB]) rfl, hb⟩

theorem takImpl9 (a b : Int) (w : World) :
    Calls Try.prog 26 #[.int .i64 9, .int .i64 a, .int .i64 b] w fun e w' => e = .returned (.tuple #[.bool (takB 9 a b), .int .i64 0]) ∧ Below w.heap.size w w' := by
  have hidx : ∀ w', (Instr.index 55 (.agg cmpsA) (.int .i64 9)).run Try.prog w' = .ok (.func (.func 21) #[] #[]) w' := fun w' => by kernel_rfl
  go_enter Try.func26, Try.ntmps26
  go_wp2_with fail
  refine (kindOk 9 5 10 w (by decide) (by decide) (by decide) (by decide)).mono ?_
  rintro e w1 ⟨rfl, rfl⟩
  go_wp2_with fail
  refine (cmpsC _).mono ?_
  rintro e w2 ⟨rfl, hb⟩
  go_wp2_with fail
  refine (implBelow a b _).mono ?_
  rintro e w3 ⟨rfl, rfl⟩
  go_wp2
  go_ret2
  exact ⟨ret_tak (by first | rfl | simp [takB]) rfl, hb⟩

theorem takImpl10 (a b : Int) (w : World) :
    Calls Try.prog 26 #[.int .i64 10, .int .i64 a, .int .i64 b] w fun e w' => e = .returned (.tuple #[.bool (takB 10 a b), .int .i64 0]) ∧ Below w.heap.size w w' := by
  have hidx : ∀ w', (Instr.index 55 (.agg cmpsA) (.int .i64 10)).run Try.prog w' = .ok (.func (.func 106) #[] #[]) w' := fun w' => by kernel_rfl
  go_enter Try.func26, Try.ntmps26
  go_wp2_with fail
  refine (kindOk 10 5 10 w (by decide) (by decide) (by decide) (by decide)).mono ?_
  rintro e w1 ⟨rfl, rfl⟩
  go_wp2_with fail
  refine (cmpsC _).mono ?_
  rintro e w2 ⟨rfl, hb⟩
  go_wp2_with fail
  go_enter Try.func106, Try.ntmps106
  go_wp2_with fail
  refine (implBelow a b _).mono ?_
  rintro e w3 ⟨rfl, rfl⟩
  go_wp2
  go_ret2
  exact ⟨ret_tak (by first | rfl | simp [takB]) rfl, hb⟩

theorem takImplNo (op a b : Int) (w : World) (h : op < 1 ∨ 64 < op) :
    Calls Try.prog 26 #[.int .i64 op, .int .i64 a, .int .i64 b] w fun e w' => e = .returned (.tuple #[.bool false, .int .i64 4]) ∧ w' = w := by
  go_enter Try.func26, Try.ntmps26
  go_wp2_with fail
  refine (kindRange op 5 10 w h).mono ?_
  rintro e w1 ⟨rfl, rfl⟩
  clear h
  go_wp2
  go_ret2
  exact ⟨rfl, rfl⟩
theorem takImplKind (op a b : Int) (w : World) (h0 : 1 ≤ op) (h1 : op ≤ 64) (h : op < 5 ∨ 10 < op) :
    Calls Try.prog 26 #[.int .i64 op, .int .i64 a, .int .i64 b] w fun e w' => e = .returned (.tuple #[.bool false, .int .i64 26]) ∧ w' = w := by
  go_enter Try.func26, Try.ntmps26
  go_wp2_with fail
  refine (kindKind op 5 10 w h0 h1 h).mono ?_
  rintro e w1 ⟨rfl, rfl⟩
  clear h
  go_wp2
  go_ret2
  exact ⟨rfl, rfl⟩
theorem takImpl (op a b : Int) (w : World) (h0 : 5 ≤ op) (h1 : op ≤ 10) :
    Calls Try.prog 26 #[.int .i64 op, .int .i64 a, .int .i64 b] w fun e w' => e = .returned (.tuple #[.bool (takB op a b), .int .i64 0]) ∧ Below w.heap.size w w' := by
  rcases (show op = 5 ∨ op = 6 ∨ op = 7 ∨ op = 8 ∨ op = 9 ∨ op = 10 by omega) with rfl | rfl | rfl | rfl | rfl | rfl
  · exact takImpl5 a b w
  · exact takImpl6 a b w
  · exact takImpl7 a b w
  · exact takImpl8 a b w
  · exact takImpl9 a b w
  · exact takImpl10 a b w
end Go.Proofs.Ytmahjgaaahkakaa
