/- An element of the pieces of a rule. -/
import Derived.Test.YtdabllnigaafmaaDoorRulC
namespace Go.Proofs.YtdabllnigaafmaaDoor
open Go.RowKit
set_option linter.unusedVariables false
theorem idx0 (a b c d e f g h i j k l : Int) (w : World) : (Instr.index 42 (.agg #[.int .i64 a, .int .i64 b, .int .i64 c, .int .i64 d, .int .i64 e, .int .i64 f, .int .i64 g, .int .i64 h, .int .i64 i, .int .i64 j, .int .i64 k, .int .i64 l]) (.int .i64 0)).run Tryd.prog w = .ok (.agg #[.int .i64 a, .int .i64 b, .int .i64 c]) w := by
  kernel_rfl
theorem idx1 (a b c d e f g h i j k l : Int) (w : World) : (Instr.index 42 (.agg #[.int .i64 a, .int .i64 b, .int .i64 c, .int .i64 d, .int .i64 e, .int .i64 f, .int .i64 g, .int .i64 h, .int .i64 i, .int .i64 j, .int .i64 k, .int .i64 l]) (.int .i64 1)).run Tryd.prog w = .ok (.agg #[.int .i64 d, .int .i64 e, .int .i64 f]) w := by
  kernel_rfl
theorem idx2 (a b c d e f g h i j k l : Int) (w : World) : (Instr.index 42 (.agg #[.int .i64 a, .int .i64 b, .int .i64 c, .int .i64 d, .int .i64 e, .int .i64 f, .int .i64 g, .int .i64 h, .int .i64 i, .int .i64 j, .int .i64 k, .int .i64 l]) (.int .i64 2)).run Tryd.prog w = .ok (.agg #[.int .i64 g, .int .i64 h, .int .i64 i]) w := by
  kernel_rfl
theorem idx3 (a b c d e f g h i j k l : Int) (w : World) : (Instr.index 42 (.agg #[.int .i64 a, .int .i64 b, .int .i64 c, .int .i64 d, .int .i64 e, .int .i64 f, .int .i64 g, .int .i64 h, .int .i64 i, .int .i64 j, .int .i64 k, .int .i64 l]) (.int .i64 3)).run Tryd.prog w = .ok (.agg #[.int .i64 j, .int .i64 k, .int .i64 l]) w := by
  kernel_rfl
theorem bdN {B : Nat} {a w : World} (h : Below B a w) (n : Nat) : Below B a (w.drewN n) := h.trans ⟨rfl, rfl, rfl, Nat.le_refl _, fun _ _ => rfl⟩
end Go.Proofs.YtdabllnigaafmaaDoor
